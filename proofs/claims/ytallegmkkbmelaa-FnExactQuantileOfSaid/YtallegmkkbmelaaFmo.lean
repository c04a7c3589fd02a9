/-
  Rounding keeps the order: of two numbers at one place, the greater one's word is no less.
-/
import Derived.Test.YtallegmkkbmelaaFhf
import Derived.Test.YtallegmkkbmelaaFll
namespace Go.Proofs.Ytallegmkkbmelaa
open Ieee
set_option linter.unusedVariables false

theorem cut_mono (s : Bool) {n n' d : Nat} (h : n ≤ n') : Toward.even.cut s n d ≤ Toward.even.cut s n' d := by
  have hs : ∀ n, n.log2 + 2 < d → Toward.even.cut s n d = 0 := fun n hn => by
    unfold Toward.cut
    simp only [Nat.shiftLeft_eq, Nat.one_mul, Nat.min_eq_right (Nat.le_of_lt hn)]
    have hb : n < 2 ^ (n.log2 + 1) := Nat.lt_log2_self
    have hp : 2 ^ (n.log2 + 2) = 2 * 2 ^ (n.log2 + 1) := by rw [Nat.pow_succ]; omega
    have h1 : n / 2 ^ (n.log2 + 2) = 0 := Nat.div_eq_of_lt (by omega)
    have h2 : n % 2 ^ (n.log2 + 2) = n := Nat.mod_eq_of_lt (by omega)
    rw [h1, h2]
    have e1 : decide (2 ^ (n.log2 + 2) < 2 * n) = false := decide_eq_false (by omega)
    have e2 : (2 ^ (n.log2 + 2) == 2 * n) = false := beq_eq_false_iff_ne.2 (by omega)
    simp [e1, e2]
  by_cases h1 : n.log2 + 2 < d
  · rw [hs n h1]; exact Nat.zero_le _
  · by_cases h2 : n'.log2 + 2 < d
    · have : n.log2 ≤ n'.log2 := by
        rcases Nat.eq_zero_or_pos n with h0 | h0
        · rw [h0]; exact Nat.zero_le _
        · exact (Nat.le_log2 (by omega)).2 (Nat.le_trans (Nat.log2_self_le (by omega)) h)
      omega
    · unfold Toward.cut
      simp only [Nat.shiftLeft_eq, Nat.one_mul, Nat.min_eq_left (show d ≤ n.log2 + 2 by omega), Nat.min_eq_left (show d ≤ n'.log2 + 2 by omega)]
      have hp := Nat.two_pow_pos d
      generalize 2 ^ d = g at *
      have hq : n / g ≤ n' / g := Nat.div_le_div_right h
      rcases Nat.eq_or_lt_of_le hq with he | hl
      · rw [he]
        have hr : n % g ≤ n' % g := by
          have e1 := Nat.div_add_mod n g
          have e2 := Nat.div_add_mod n' g
          rw [he] at e1; omega
        refine Nat.add_le_add_left ?_ _
        by_cases c1 : g < 2 * (n' % g)
        · rw [show decide (g < 2 * (n' % g)) = true from decide_eq_true c1]
          rw [Bool.true_or]
          exact (fun b : Bool => (by cases b <;> decide : b.toNat ≤ 1)) _
        · rw [show decide (g < 2 * (n' % g)) = false from decide_eq_false c1, show decide (g < 2 * (n % g)) = false from decide_eq_false (by omega)]
          by_cases c2 : g = 2 * (n % g)
          · have c3 : g = 2 * (n' % g) := by omega
            rw [← c2, ← c3]; exact Nat.le_refl _
          · rw [show (g == 2 * (n % g)) = false from beq_eq_false_iff_ne.2 c2]; exact Nat.zero_le _
      · have : ∀ b : Bool, b.toNat ≤ 1 := fun b => by cases b <;> decide
        exact Nat.le_trans (Nat.add_le_add_left (this _) _) (Nat.le_trans hl (Nat.le_add_right _ _))
/-- The rung of the nearest word. -/
def rungN (f : Format) (m : Nat) (p : Int) : Nat :=
  if m = 0 then 0 else
  min ((max (p + m.log2 - f.fractionBits) f.leastPlace - f.leastPlace).toNat * f.binade + Toward.even.cut false (m <<< (p - max (p + m.log2 - f.fractionBits) f.leastPlace).toNat) (max (p + m.log2 - f.fractionBits) f.leastPlace - p).toNat) f.infRung
theorem cut_even (s t : Bool) (n d : Nat) : Toward.even.cut s n d = Toward.even.cut t n d := rfl
theorem nearest_rung (f : Format) (s : Bool) (m : Nat) (p : Int) : f.nearest s m p = f.word s (rungN f m p) := by
  unfold Format.nearest rungN
  by_cases h : m = 0
  · rw [if_pos h, if_pos h]
  · rw [if_neg h, if_neg h]; rfl
theorem rung_mono (f : Format) {m m' : Nat} (p : Int) (h : m ≤ m') : rungN f m p ≤ rungN f m' p := by
  rcases Nat.eq_zero_or_pos m with h0 | h0
  · unfold rungN; rw [if_pos h0]; exact Nat.zero_le _
  unfold rungN
  rw [if_neg (by omega), if_neg (by omega)]
  obtain ⟨b1, b2⟩ := log2_bounds h0
  obtain ⟨b1', b2'⟩ := log2_bounds (show 0 < m' by omega)
  have hlog : m.log2 ≤ m'.log2 := (Nat.le_log2 (by omega)).2 (Nat.le_trans b1 h)
  generalize hL : max (p + (m.log2 : Int) - (f.fractionBits : Int)) f.leastPlace = L
  generalize hL' : max (p + (m'.log2 : Int) - (f.fractionBits : Int)) f.leastPlace = L'
  have hle : L ≤ L' := by omega
  refine Nat.le_min.2 ⟨?_, Nat.min_le_right ..⟩
  refine Nat.le_trans (Nat.min_le_left ..) ?_
  by_cases e : L = L'
  · subst e
    refine Nat.add_le_add_left (cut_mono _ ?_) _
    rw [Nat.shiftLeft_eq, Nat.shiftLeft_eq]
    exact Nat.mul_le_mul_right _ h
  · have hB : f.binade = 2 ^ f.fractionBits := rfl
    have k1 : Toward.even.cut false (m <<< (p - L).toNat) (L - p).toNat ≤ 2 * f.binade := by
      have hm2 : m <<< (p - L).toNat ≤ 2 ^ (f.fractionBits + 1 + (L - p).toNat) := by
        rw [Nat.shiftLeft_eq]
        have : m * 2 ^ (p - L).toNat ≤ 2 ^ (m.log2 + 1) * 2 ^ (p - L).toNat := Nat.mul_le_mul_right _ (Nat.le_of_lt b2)
        rw [← Nat.pow_add] at this
        exact Nat.le_trans this (Nat.pow_le_pow_right (by omega) (by omega))
      refine Nat.le_trans (cut_mono _ hm2) ?_
      rw [cut_pow _ _ _ (by omega), Nat.add_sub_cancel, Nat.pow_succ, hB, Nat.mul_comm]; exact Nat.le_refl _
    have k2 : f.binade ≤ Toward.even.cut false (m' <<< (p - L').toNat) (L' - p).toNat := by
      have hm2 : 2 ^ (f.fractionBits + (L' - p).toNat) ≤ m' <<< (p - L').toNat := by
        rw [Nat.shiftLeft_eq]
        have : 2 ^ m'.log2 * 2 ^ (p - L').toNat ≤ m' * 2 ^ (p - L').toNat := Nat.mul_le_mul_right _ b1'
        rw [← Nat.pow_add] at this
        exact Nat.le_trans (Nat.pow_le_pow_right (by omega) (by omega)) this
      refine Nat.le_trans ?_ (cut_mono _ hm2)
      rw [cut_pow _ _ _ (by omega), Nat.add_sub_cancel, hB]; exact Nat.le_refl _
    have k3 : ((L - f.leastPlace).toNat + 1) * f.binade ≤ (L' - f.leastPlace).toNat * f.binade := Nat.mul_le_mul_right _ (by omega)
    rw [Nat.add_mul, Nat.one_mul] at k3
    omega
/-- Of two numbers at any places. -/
theorem rung_scale (f : Format) (m k : Nat) (p : Int) (h : 0 < m) : rungN f (m * 2 ^ k) p = rungN f m (p + k) := by
  have := nearest_scale f false m k p h
  rw [nearest_rung, nearest_rung] at this
  exact this

/-! ### A share of a small number, made whole -/
theorem trunc_word {r : Nat} (s : Bool) (h : r < 2139095040) : (single.read (single.word s r)).toInt .zero = some (if s then -((mag 8388608 r / 2 ^ 149 : Nat) : Int) else (mag 8388608 r / 2 ^ 149 : Nat)) := by
  have hw : single.word s r % 2147483648 = r ∧ (single.word s r / 2147483648 % 2 == 1) = s := by
    unfold Format.word
    rw [s_sign]
    cases s
    · exact ⟨by simp only [Bool.false_eq_true, if_false]; omega, by simp only [Bool.false_eq_true, if_false]; rw [beq_eq_false_iff_ne]; omega⟩
    · exact ⟨by simp only [if_true]; omega, by simp only [if_true]; rw [beq_iff_eq]; omega⟩
  obtain ⟨t, m, e, h1, h2, h3⟩ := read_mag single (single.word s r) (by rw [s_sign, s_inf, hw.1]; exact h)
  rw [s_sign, hw.1, hf_bin] at h2
  rw [s_sign, hw.2] at h3
  subst h3
  rw [h1]
  simp only [Datum.toInt, Datum.integral]
  have hl : single.leastPlace = -149 := by decide
  have hc : Toward.zero.cut t (m <<< (single.leastPlace + (e : Int)).toNat) (-(single.leastPlace + (e : Int))).toNat = mag 8388608 r / 2 ^ 149 := by
    rw [zero_cut, hl, ← h2, Nat.shiftLeft_eq]
    by_cases c : 149 ≤ e
    · rw [show (-(-149 + (e : Int))).toNat = 0 by omega, Nat.min_eq_left (Nat.zero_le _), Nat.pow_zero, Nat.div_one, show (-149 + (e : Int)).toNat = e - 149 by omega]
      obtain ⟨k, rfl⟩ : ∃ k, e = k + 149 := ⟨e - 149, by omega⟩
      rw [Nat.add_sub_cancel, Nat.pow_add, ← Nat.mul_assoc, Nat.mul_div_cancel _ (Nat.two_pow_pos _)]
    · rw [show (-149 + (e : Int)).toNat = 0 by omega, Nat.pow_zero, Nat.mul_one, show (-(-149 + (e : Int))).toNat = 149 - e by omega]
      have hd : m * 2 ^ e / 2 ^ 149 = m / 2 ^ (149 - e) := by
        obtain ⟨k, hk⟩ : ∃ k, 149 = k + e := ⟨149 - e, by omega⟩
        rw [hk, Nat.pow_add, Nat.mul_div_mul_right _ _ (Nat.two_pow_pos _), Nat.add_sub_cancel]
      rw [hd]
      rcases Nat.le_total (149 - e) (m.log2 + 2) with hh | hh
      · rw [Nat.min_eq_left hh]
      · rw [Nat.min_eq_right hh]
        have hb : m < 2 ^ (m.log2 + 1) := Nat.lt_log2_self
        have hp : 2 ^ (m.log2 + 1) ≤ 2 ^ (m.log2 + 2) := Nat.pow_le_pow_right (by omega) (by omega)
        have hp2 : 2 ^ (m.log2 + 2) ≤ 2 ^ (149 - e) := Nat.pow_le_pow_right (by omega) hh
        rw [Nat.div_eq_of_lt (by omega), Nat.div_eq_of_lt (by omega)]
  rw [hc]
  show some (signed t _ 0) = _
  unfold signed
  rw [Nat.shiftLeft_eq, Nat.pow_zero, Nat.mul_one]
theorem mag32_le {r s : Nat} (h : r ≤ s) : mag 8388608 r ≤ mag 8388608 s := by
  rcases Nat.eq_or_lt_of_le h with e | e
  · rw [e]; exact Nat.le_refl _
  · exact Nat.le_of_lt (mag_mono _ (by omega) e)
/-- A share: from 0 to 1. -/
def shrB (x : Nat) : Bool := !isN .f32 x && (decide (0 ≤ sr single x) && decide (sr single x ≤ 1065353216))
theorem shr_t {x : Nat} (h : shrB x = true) : isN .f32 x = false ∧ 0 ≤ sr single x ∧ sr single x ≤ 1065353216 := by
  unfold shrB at h
  simp at h
  exact ⟨h.1, h.2.1, h.2.2⟩
/-- The word of a whole number from 0 to 95: its mag is that number's. -/
theorem i2f_lt : ∀ n : Nat, n < 96 → floatOfInt .f32 (n : Int) < 1132462080 := by decide +kernel
theorem i2f_mag : ∀ n : Nat, n < 96 → (mag 8388608 (floatOfInt .f32 (n : Int)) == n * 713623846352979940529142984724747568191373312) = true := by decide +kernel
theorem pow149 : (2 : Nat) ^ 149 = 713623846352979940529142984724747568191373312 := by decide +kernel
theorem i2f_facts (n : Nat) (h : n < 96) : floatOfInt .f32 (n : Int) < 1132462080 ∧ mag 8388608 (floatOfInt .f32 (n : Int)) = n * 2 ^ 149 :=
  ⟨i2f_lt n h, by rw [pow149]; exact eq_of_beq (i2f_mag n h)⟩
theorem le_one (K m e R : Nat) (hK : K = 149) (hR : R ≤ 1065353216) (h : m * 2 ^ e = mag 8388608 R) : m * 2 ^ e ≤ 2 ^ K := by
  rw [h]
  refine Nat.le_trans (mag32_le hR) ?_
  subst hK
  rw [pow149]
  decide +kernel
theorem near_small : ∀ n : Nat, n < 96 → 0 < n → single.nearest false n 0 = floatOfInt .f32 (n : Int) := by decide +kernel
theorem near_i2f (K : Nat) (hK : K = 149) {n m' e' : Nat} (hn : n < 96) (h0' : 0 < m') (q2 : m' * 2 ^ e' = n * 2 ^ K) : single.nearest false m' (-149 + (e' : Int)) = floatOfInt .f32 (n : Int) := by
  have hn0 : 0 < n := by
    rcases Nat.eq_zero_or_pos n with hz | hz
    · rw [hz, Nat.zero_mul] at q2
      have h2 := Nat.mul_pos h0' (Nat.two_pow_pos e')
      exact absurd q2 (Nat.ne_of_gt h2)
    · exact hz
  have e1 : single.nearest false (m' * 2 ^ e') (-149) = single.nearest false m' (-149 + (e' : Int)) := nearest_scale single false m' e' (-149) h0'
  rw [← e1, q2, nearest_scale single false n K (-149) hn0, show (-149 + (K : Int)) = 0 by omega]
  exact near_small n hn hn0
theorem word_false (f : Format) (r : Nat) : f.word false r = r := rfl
theorem share_rung (K : Nat) (hK : K = 149) {n m m' e e' : Nat} (hn : n < 96) (hm : m * 2 ^ e ≤ 2 ^ K) (q2 : m' * 2 ^ e' = n * 2 ^ K) : rungN single (m * m') (-149 + e + (-149 + e')) ≤ floatOfInt .f32 (n : Int) := by
  rcases Nat.eq_zero_or_pos m with h0 | h0
  · unfold rungN; rw [h0, Nat.zero_mul, if_pos rfl]; exact Nat.zero_le _
  rcases Nat.eq_zero_or_pos m' with h0' | h0'
  · unfold rungN; rw [h0', Nat.mul_zero, if_pos rfl]; exact Nat.zero_le _
  have hE : e ≤ K := by
    have : 2 ^ e ≤ m * 2 ^ e := Nat.le_mul_of_pos_left _ h0
    exact (Nat.pow_le_pow_iff_right (by omega : 1 < 2)).1 (Nat.le_trans this hm)
  have hmm : m ≤ 2 ^ (K - e) := by
    refine Nat.le_of_mul_le_mul_right (c := 2 ^ e) ?_ (Nat.two_pow_pos _)
    rw [← Nat.pow_add, show K - e + e = K by omega]; exact hm
  have hmn : m * m' ≤ m' * 2 ^ (K - e) := by rw [Nat.mul_comm m m']; exact Nat.mul_le_mul_left _ hmm
  refine Nat.le_trans (rung_mono single _ hmn) ?_
  rw [rung_scale single m' _ _ h0', show (-149 + (e : Int) + (-149 + (e' : Int)) + ((K - e : Nat) : Int)) = -149 + (e' : Int) by omega]
  have hw := near_i2f K hK hn h0' q2
  rw [nearest_rung, word_false] at hw
  exact Nat.le_of_eq hw
theorem mag_i2f (K : Nat) (hK : K = 149) (n : Nat) (h : n < 96) : mag 8388608 (floatOfInt .f32 (n : Int)) = n * 2 ^ K := by
  subst hK; exact (i2f_facts n h).2
theorem small_mul (K : Nat) (hK : K = 149) {x n : Nat} (h : shrB x = true) (hn : n < 96) : ∃ (r : Nat) (s : Bool), floatBits .mul .f32 x (floatOfInt .f32 (n : Int)) = some (single.word s r) ∧ r ≤ floatOfInt .f32 (n : Int) ∧ (s = true → r = 0) := by
  obtain ⟨h1, h2, h3⟩ := shr_t h
  have g1 := i2f_lt n hn
  have g2 := mag_i2f K hK n hn
  -- the share is at most 1
  have hx : x % 2147483648 ≤ 1065353216 ∧ ((x / 2147483648 % 2 == 1) = true → x % 2147483648 = 0) := by
    unfold sr at h2 h3
    rw [s_sign] at h2 h3
    cases hs : (x / 2147483648 % 2 == 1)
    · rw [hs] at h2 h3; simp only [Bool.false_eq_true, if_false] at h2 h3; exact ⟨by omega, fun c => by cases c⟩
    · rw [hs] at h2 h3; simp only [if_true] at h2 h3; exact ⟨by omega, fun _ => by omega⟩
  obtain ⟨s, m, e, r1, r2, r3⟩ := read_mag single x (by rw [s_sign, s_inf]; omega)
  obtain ⟨s', m', e', q1, q2, q3⟩ := read_mag single (floatOfInt .f32 (n : Int)) (by rw [s_sign, s_inf]; omega)
  rw [s_sign, hf_bin] at r2 q2
  rw [s_sign] at r3 q3
  rw [Nat.mod_eq_of_lt (show floatOfInt .f32 (n : Int) < 2147483648 by omega), g2] at q2
  have hs' : s' = false := by rw [q3, beq_eq_false_iff_ne]; omega
  subst hs'
  have hl : single.leastPlace = -149 := by decide
  have hm := le_one K m e _ hK hx.1 r2
  have hsh := share_rung K hK hn hm q2
  rw [hl] at r1 q1
  refine ⟨rungN single (m * m') (-149 + e + (-149 + e')), s, ?_, hsh, fun hs => ?_⟩
  · show Option.map single.write ((single.read x).product (single.read (floatOfInt .f32 (n : Int)))) = _
    rw [r1, q1]
    simp only [Datum.product, Option.map_some, s_write, Bool.xor_false]
    rw [nearest_rung]
  · rw [r3] at hs
    have hz := hx.2 hs
    have hm0 : m = 0 := by
      rw [hz, mag_zero _ (by omega)] at r2
      rcases Nat.eq_zero_or_pos m with h0 | h0
      · exact h0
      · exact absurd r2 (Nat.ne_of_gt (Nat.mul_pos h0 (Nat.two_pow_pos e)))
    unfold rungN
    rw [hm0, Nat.zero_mul, if_pos rfl]
end Go.Proofs.Ytallegmkkbmelaa
