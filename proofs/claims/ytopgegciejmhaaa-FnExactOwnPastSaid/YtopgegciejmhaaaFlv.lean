/-
  Floats are compared as their words are: the lower bits as a number, with the sign.
-/
import Derived.Test.YtopgegciejmhaaaFlw
namespace Go.Proofs.Ytopgegciejmhaaa
open Ieee
set_option linter.unusedSimpArgs false

/-- The magnitude of a rung, in units of the least one. -/
def mag (B r : Nat) : Nat := if r < B then r else (B + r % B) * 2 ^ (r / B - 1)
theorem mag_succ (B r : Nat) (hB : 0 < B) : mag B r < mag B (r + 1) := by
  unfold mag
  by_cases h1 : r + 1 < B
  · rw [if_pos (by omega), if_pos h1]; omega
  · rw [if_neg h1]
    by_cases h2 : r < B
    · have e : r + 1 = B := by omega
      rw [if_pos h2, e, Nat.mod_self, Nat.div_self hB]; simp; omega
    · rw [if_neg h2]
      have hd := Nat.div_add_mod r B
      have hm := Nat.mod_lt r hB
      by_cases h3 : r % B + 1 < B
      · have e1 : (r + 1) % B = r % B + 1 := by
          rw [← hd, Nat.add_assoc, Nat.mul_add_mod, Nat.mul_add_mod, Nat.mod_eq_of_lt h3, Nat.mod_eq_of_lt hm]
        have e2 : (r + 1) / B = r / B := by
          have : r + 1 = B * (r / B) + (r % B + 1) := by omega
          rw [this, Nat.mul_add_div hB, Nat.div_eq_of_lt h3]; omega
        rw [e1, e2]
        exact Nat.mul_lt_mul_of_pos_right (by omega) (Nat.two_pow_pos _)
      · have h4 : r % B + 1 = B := by omega
        have e0 : r + 1 = B * (r / B + 1) := by rw [Nat.mul_add]; omega
        have e1 : (r + 1) % B = 0 := by rw [e0, Nat.mul_mod_right]
        have e2 : (r + 1) / B = r / B + 1 := by rw [e0, Nat.mul_div_cancel_left _ hB]
        have h5 : 1 ≤ r / B := (Nat.one_le_div_iff hB).2 (by omega)
        rw [e1, e2, show r / B + 1 - 1 = (r / B - 1) + 1 by omega, Nat.pow_succ]
        have : (B + r % B) < B * 2 := by omega
        calc (B + r % B) * 2 ^ (r / B - 1) < B * 2 * 2 ^ (r / B - 1) := Nat.mul_lt_mul_of_pos_right this (Nat.two_pow_pos _)
          _ = (B + 0) * (2 ^ (r / B - 1) * 2) := by rw [Nat.add_zero, Nat.mul_assoc, Nat.mul_comm 2]
theorem mag_mono (B : Nat) (hB : 0 < B) {r s : Nat} (h : r < s) : mag B r < mag B s := by
  induction s with
  | zero => omega
  | succ s ih =>
    by_cases e : r = s
    · subst e; exact mag_succ B r hB
    · exact Nat.lt_trans (ih (by omega)) (mag_succ B s hB)
theorem mag_zero (B : Nat) (hB : 0 < B) : mag B 0 = 0 := by unfold mag; rw [if_pos hB]

/-- A word as a number: its lower bits, with the sign. -/
def sr (f : Format) (x : Nat) : Int := if x / f.signWeight % 2 == 1 then -((x % f.signWeight : Nat) : Int) else (x % f.signWeight : Nat)
def sm (f : Format) (x : Nat) : Int := if x / f.signWeight % 2 == 1 then -((mag f.binade (x % f.signWeight) : Nat) : Int) else (mag f.binade (x % f.signWeight) : Nat)

theorem binade_pos (f : Format) : 0 < f.binade := Nat.two_pow_pos _

theorem compare_sm (f : Format) (x y : Nat) : compare (sm f x) (sm f y) = compare (sr f x) (sr f y) := by
  have key : ∀ a b : Nat, (a < b → mag f.binade a < mag f.binade b) := fun a b h => mag_mono _ (binade_pos f) h
  have k0 := mag_zero f.binade (binade_pos f)
  unfold sm sr
  generalize x % f.signWeight = a
  generalize y % f.signWeight = b
  have hab := key a b
  have hba := key b a
  have ha := key 0 a
  have hb := key 0 b
  rw [k0] at ha hb
  have z : ∀ c, mag f.binade c = 0 → c = 0 := fun c hc => by
    by_cases h : c = 0
    · exact h
    · have := key 0 c (by omega); omega
  have za := z a
  have zb := z b
  have eab : a = b → mag f.binade a = mag f.binade b := fun h => by rw [h]
  have ea0 : a = 0 → mag f.binade a = 0 := fun h => by rw [h]; exact k0
  have eb0 : b = 0 → mag f.binade b = 0 := fun h => by rw [h]; exact k0
  generalize mag f.binade a = A at *
  generalize mag f.binade b = C at *
  clear key z k0
  split <;> split <;> simp only [compare, compareOfLessAndEq] <;> (repeat' split) <;> first | rfl | omega

/-- Numbers are compared as these magnitudes are. -/
theorem read_mag (f : Format) (x : Nat) (h : x % f.signWeight < f.infRung) :
    ∃ s m, ∃ e : Nat, f.read x = .number s m (f.leastPlace + e) ∧ m * 2 ^ e = mag f.binade (x % f.signWeight) ∧ s = (x / f.signWeight % 2 == 1) := by
  unfold Format.read mag
  simp only
  by_cases h1 : x % f.signWeight < f.binade
  · rw [if_pos h1, if_pos h1]; exact ⟨_, x % f.signWeight, 0, by simp, by simp, rfl⟩
  · rw [if_neg h1, if_pos h, if_neg h1]; exact ⟨_, _, _, rfl, rfl, rfl⟩
theorem signed_shift (s : Bool) (m a e d : Nat) (h : a + d = e) : signed s m e = signed s m a * (2 ^ d : Nat) := by
  subst h
  unfold signed
  cases s <;> simp [Nat.shiftLeft_eq, Nat.pow_add, ← Nat.mul_assoc] <;> simp [Int.mul_assoc, Int.neg_mul]
theorem compare_mul (a b : Int) (c : Nat) (hc : 0 < c) : compare (a * c) (b * c) = compare a b := by
  simp only [compare, compareOfLessAndEq]
  have h1 : a * c < b * c ↔ a < b := ⟨fun h => Int.lt_of_mul_lt_mul_right h (by omega), fun h => Int.mul_lt_mul_of_pos_right h (by omega)⟩
  have h2 : a * c = b * c ↔ a = b := ⟨fun h => Int.eq_of_mul_eq_mul_right (by omega) h, fun h => by rw [h]⟩
  simp only [h1, h2]
theorem signed_mag (s : Bool) (m e : Nat) : signed s m e = if s then -((m * 2 ^ e : Nat) : Int) else (m * 2 ^ e : Nat) := by
  unfold signed; simp only [Nat.shiftLeft_eq]

theorem order_num (f : Format) (x y : Nat) (hx : x % f.signWeight < f.infRung) (hy : y % f.signWeight < f.infRung) : f.order x y = some (compare (sr f x) (sr f y)) := by
  obtain ⟨s, m, e, h1, h3, h4⟩ := read_mag f x hx
  obtain ⟨t, n, d, g1, g3, g4⟩ := read_mag f y hy
  unfold Format.order
  rw [h1, g1, ← compare_sm]
  simp only [Datum.order]
  have ex : sm f x = signed s m e := by rw [signed_mag, h3, h4]; rfl
  have ey : sm f y = signed t n d := by rw [signed_mag, g3, g4]; rfl
  rw [ex, ey]
  generalize hb : min (f.leastPlace + (e : Int)) (f.leastPlace + (d : Int)) = b
  have k1 : (f.leastPlace + (e : Int) - b).toNat + min e d = e := by omega
  have k2 : (f.leastPlace + (d : Int) - b).toNat + min e d = d := by omega
  rw [signed_shift s m _ e _ k1, signed_shift t n _ d _ k2, compare_mul _ _ _ (Nat.two_pow_pos _)]

theorem bin_lt_inf (k : FloatKind) : k.format.binade < k.format.infRung := by cases k <;> decide
theorem isN_iff (k : FloatKind) (x : Nat) : isN k x = decide (k.format.infRung < x % k.format.signWeight) := by
  have hb := bin_lt_inf k
  unfold isN Format.read
  simp only
  by_cases h1 : x % k.format.signWeight < k.format.binade
  · rw [if_pos h1, decide_eq_false (by omega)]; rfl
  · rw [if_neg h1]
    by_cases h2 : x % k.format.signWeight < k.format.infRung
    · rw [if_pos h2, decide_eq_false (by omega)]; rfl
    · rw [if_neg h2]
      by_cases h3 : x % k.format.signWeight = k.format.infRung
      · rw [if_pos h3, decide_eq_false (by omega)]; rfl
      · rw [if_neg h3, decide_eq_true (by omega)]; rfl
/-- Is it an infinity? -/
def isI (k : FloatKind) (x : Nat) : Bool := (k.format.read x).isInfinity
theorem isI_iff (k : FloatKind) (x : Nat) : isI k x = decide (x % k.format.signWeight = k.format.infRung) := by
  have hb := bin_lt_inf k
  unfold isI Format.read
  simp only
  by_cases h1 : x % k.format.signWeight < k.format.binade
  · rw [if_pos h1, decide_eq_false (by omega)]; rfl
  · rw [if_neg h1]
    by_cases h2 : x % k.format.signWeight < k.format.infRung
    · rw [if_pos h2, decide_eq_false (by omega)]; rfl
    · rw [if_neg h2]
      by_cases h3 : x % k.format.signWeight = k.format.infRung
      · rw [if_pos h3, decide_eq_true (by omega)]; rfl
      · rw [if_neg h3, decide_eq_false (by omega)]; rfl
theorem read_inf (k : FloatKind) (x : Nat) (h : x % k.format.signWeight = k.format.infRung) : k.format.read x = .infinity (x / k.format.signWeight % 2 == 1) := by
  have hb := bin_lt_inf k
  unfold Format.read
  simp only [h]
  rw [if_neg (by omega), if_neg (by omega), if_pos trivial]
/-- Whatever is no not-a-number is compared as the signed words are. -/
theorem order_all (k : FloatKind) (x y : Nat) (hx : isN k x = false) (hy : isN k y = false) : k.format.order x y = some (compare (sr k.format x) (sr k.format y)) := by
  rw [isN_iff] at hx hy
  have hx' : ¬ k.format.infRung < x % k.format.signWeight := of_decide_eq_false hx
  have hy' : ¬ k.format.infRung < y % k.format.signWeight := of_decide_eq_false hy
  by_cases h1 : x % k.format.signWeight = k.format.infRung
  · by_cases h2 : y % k.format.signWeight = k.format.infRung
    · unfold Format.order
      rw [read_inf k x h1, read_inf k y h2]
      simp only [Datum.order, sr, h1, h2]
      have := bin_lt_inf k
      have hI := bin_lt_inf k
      generalize k.format.infRung = I at *; generalize x % k.format.signWeight = a at *; generalize y % k.format.signWeight = b at *; generalize (x / k.format.signWeight % 2 == 1) = u; generalize (y / k.format.signWeight % 2 == 1) = v; cases u <;> cases v <;> simp only [compare, compareOfLessAndEq, Bool.toNat, cond, if_true, if_false, Bool.false_eq_true] <;> (repeat' split) <;> first | rfl | omega | contradiction
    · have hy2 : y % k.format.signWeight < k.format.infRung := by omega
      obtain ⟨t, n, d, g1, _, _⟩ := read_mag k.format y hy2
      unfold Format.order
      rw [read_inf k x h1, g1]
      simp only [Datum.order, sr, h1]
      generalize k.format.infRung = I at *; generalize y % k.format.signWeight = b at *; generalize (x / k.format.signWeight % 2 == 1) = u; generalize (y / k.format.signWeight % 2 == 1) = v; cases u <;> cases v <;> simp only [compare, compareOfLessAndEq, Bool.toNat, cond, if_true, if_false, Bool.false_eq_true] <;> (repeat' split) <;> first | rfl | omega | contradiction
  · have hx2 : x % k.format.signWeight < k.format.infRung := by omega
    by_cases h2 : y % k.format.signWeight = k.format.infRung
    · obtain ⟨t, n, d, g1, _, _⟩ := read_mag k.format x hx2
      unfold Format.order
      rw [read_inf k y h2, g1]
      simp only [Datum.order, sr, h2]
      generalize k.format.infRung = I at *; generalize x % k.format.signWeight = a at *; generalize (x / k.format.signWeight % 2 == 1) = u; generalize (y / k.format.signWeight % 2 == 1) = v; cases u <;> cases v <;> simp only [compare, compareOfLessAndEq, Bool.toNat, cond, if_true, if_false, Bool.false_eq_true] <;> (repeat' split) <;> first | rfl | omega | contradiction
    · exact order_num k.format x y hx2 (by omega)

theorem log2_23 {m : Nat} (h1 : 8388608 ≤ m) (h2 : m < 16777216) : m.log2 = 23 := (Nat.log2_eq_iff (by omega)).2 ⟨h1, h2⟩
theorem log2_22 {m : Nat} (h2 : m < 8388608) : m.log2 ≤ 22 := by
  by_cases h0 : m = 0
  · subst h0; decide
  · have := (Nat.log2_lt h0).2 (show m < 2 ^ 23 from h2); omega
theorem word_low (neg : Bool) {r : Nat} (h : r < 9223372036854775808) : double.word neg r % 9223372036854775808 = r ∧ (double.word neg r / 9223372036854775808 % 2 == 1) = neg ∧ double.word neg r < 18446744073709551616 := by
  unfold Format.word
  rw [d_sign]
  cases neg
  · rw [if_neg (by simp)]; refine ⟨by omega, ?_, by omega⟩; simp; omega
  · rw [if_pos rfl]; refine ⟨by omega, ?_, by omega⟩; simp; omega
/-- The lower bits of the 64-bit word, by those of the 32-bit one. -/
theorem awide_rung (x : Nat) (h : isN .f32 x = false) :
    (awide x / 9223372036854775808 % 2 == 1) = (x / 2147483648 % 2 == 1) ∧ awide x < 18446744073709551616 ∧
    (8388608 ≤ x % 2147483648 → x % 2147483648 < 2139095040 → awide x % 9223372036854775808 = x % 2147483648 * 536870912 + 4035225266123964416) ∧
    (x % 2147483648 = 0 → awide x % 9223372036854775808 = 0) ∧
    (x % 2147483648 < 8388608 → 0 < x % 2147483648 → 0 < awide x % 9223372036854775808 ∧ awide x % 9223372036854775808 < 4039728865751334912) ∧
    (x % 2147483648 = 2139095040 → awide x % 9223372036854775808 = 9218868437227405312) := by
  rw [isN_iff] at h
  have hn : ¬ 2139095040 < x % 2147483648 := of_decide_eq_false h
  have haw : awide x = double.write (single.read x) := by
    unfold awide; rw [isN_iff, decide_eq_false (by exact hn)]; rfl
  have hr : single.read x = if x % 2147483648 < 8388608 then .number (x / 2147483648 % 2 == 1) (x % 2147483648) (-149)
      else if x % 2147483648 < 2139095040 then .number (x / 2147483648 % 2 == 1) (8388608 + x % 2147483648 % 8388608) (-149 + (x % 2147483648 / 8388608 - 1 : Nat))
      else if x % 2147483648 = 2139095040 then .infinity (x / 2147483648 % 2 == 1) else .nan (x / 2147483648 % 2 == 1) (x % 2147483648 - 2139095040) := by
    unfold Format.read
    simp only [s_sign, s_binade, s_inf, s_least]
  rw [haw, hr]
  generalize (x / 2147483648 % 2 == 1) = s
  generalize x % 2147483648 = r at *
  by_cases h1 : r < 8388608
  · rw [if_pos h1]
    show (double.nearest s r (-149) / _ % 2 == 1) = s ∧ double.nearest s r (-149) < _ ∧ (_ → _ → double.nearest s r (-149) % _ = _) ∧ (_ → double.nearest s r (-149) % _ = 0) ∧ (_ → _ → 0 < double.nearest s r (-149) % _ ∧ double.nearest s r (-149) % _ < _) ∧ (_ → double.nearest s r (-149) % _ = _)
    by_cases h0 : r = 0
    · subst h0
      have e : double.nearest s 0 (-149) = double.word s 0 := by unfold Format.nearest; rw [if_pos rfl]
      obtain ⟨a, b, c⟩ := word_low s (r := 0) (by omega)
      rw [e, a]
      exact ⟨b, c, fun h => by omega, fun _ => rfl, fun _ h => by omega, fun h => by omega⟩
    · have hl := log2_22 h1
      obtain ⟨e, k1, k2⟩ := wide_nearest s r (-149) (by omega) (by omega) (by omega) (by omega)
      generalize r * 2 ^ (52 - r.log2) = K at *
      generalize hE : ((-149 : Int) + (r.log2 : Int) + 1022).toNat = E at *
      have hE2 : E ≤ 895 := by omega
      obtain ⟨a, b, c⟩ := word_low s (r := E * 4503599627370496 + K) (by omega)
      rw [e, a]
      exact ⟨b, c, fun h => by omega, fun h => by omega, fun _ _ => by omega, fun h => by omega⟩
  · rw [if_neg h1]
    by_cases h2 : r < 2139095040
    · rw [if_pos h2]
      generalize hp : (-149 + (r / 8388608 - 1 : Nat) : Int) = p
      show (double.nearest s _ p / _ % 2 == 1) = s ∧ double.nearest s _ p < _ ∧ (_ → _ → double.nearest s _ p % _ = _) ∧ (_ → double.nearest s _ p % _ = 0) ∧ (_ → _ → 0 < double.nearest s _ p % _ ∧ double.nearest s _ p % _ < _) ∧ (_ → double.nearest s _ p % _ = _)
      have hl := log2_23 (m := 8388608 + r % 8388608) (by omega) (by omega)
      obtain ⟨e, k1, k2⟩ := wide_nearest s (8388608 + r % 8388608) p (by omega) (by omega) (by rw [hl]; omega) (by rw [hl]; omega)
      rw [hl] at e k1 k2
      have ee : (p + (23 : Nat) + 1022).toNat * 4503599627370496 + (8388608 + r % 8388608) * 2 ^ (52 - 23) = r * 536870912 + 4035225266123964416 := by
        have : (p + (23 : Nat) + 1022).toNat = r / 8388608 + 895 := by omega
        rw [this]; omega
      rw [ee] at e
      obtain ⟨R, hR⟩ : ∃ R, R = r * 536870912 + 4035225266123964416 := ⟨_, rfl⟩
      have hR2 : R < 9223372036854775808 := by omega
      have e' : double.nearest s (8388608 + r % 8388608) p = double.word s R := by rw [e, hR]
      obtain ⟨a, b, c⟩ := word_low s (r := R) hR2
      rw [e', a]
      exact ⟨b, c, fun _ _ => hR, fun h => by omega, fun h => by omega, fun h => by omega⟩
    · have h3 : r = 2139095040 := by omega
      rw [if_neg h2, if_pos h3]
      show (double.word s double.infRung / _ % 2 == 1) = s ∧ double.word s double.infRung < _ ∧ (_ → _ → double.word s double.infRung % _ = _) ∧ (_ → double.word s double.infRung % _ = 0) ∧ (_ → _ → 0 < double.word s double.infRung % _ ∧ double.word s double.infRung % _ < _) ∧ (_ → double.word s double.infRung % _ = _)
      rw [d_inf]
      obtain ⟨a, b, c⟩ := word_low s (r := 9218868437227405312) (by omega)
      rw [a]
      exact ⟨b, c, fun _ h => by omega, fun h => by omega, fun h => by omega, fun _ => rfl⟩
end Go.Proofs.Ytopgegciejmhaaa
