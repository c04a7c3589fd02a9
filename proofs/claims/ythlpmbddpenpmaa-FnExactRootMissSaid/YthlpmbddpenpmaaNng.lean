/-
  Words without a sign: sums of squares, their means and roots.
-/
import Derived.Test.YthlpmbddpenpmaaCRoo
import Derived.Test.YthlpmbddpenpmaaCSpr
import Derived.Test.YthlpmbddpenpmaaMta
import Derived.Test.YthlpmbddpenpmaaAbl
namespace Go.Proofs.Ythlpmbddpenpmaa
open Ieee Go.RowKit
set_option linter.unusedVariables false

def nng (x : Nat) : Prop := (single.read x).neg = false
theorem nng_word {r : Nat} (h : r ≤ single.infRung) : nng (single.word false r) := by
  unfold nng
  rw [read_word single false (by rw [s_sign]; rw [s_inf] at h; omega)]
  repeat' split
  all_goals rfl
theorem nng_near (m : Nat) (p : Int) : nng (single.nearest false m p) := by
  unfold Format.nearest
  split
  · exact nng_word (Nat.zero_le _)
  · exact nng_word (Nat.min_le_right ..)
theorem nng_write {d : Datum} (h : d.neg = false) (hn : d.isNaN = false) : nng (single.write d) := by
  cases d with
  | number s m p => obtain rfl : s = false := h; exact nng_near m p
  | infinity s => obtain rfl : s = false := h; exact nng_word (Nat.le_refl _)
  | nan s t => cases hn
theorem nng_nan : nng (nanOf .f32) := by unfold nng; decide +kernel
theorem nng_zero : nng 0 := by unfold nng; decide +kernel
theorem nng_of {op : BinOp} {x y : Nat} (h : ∀ r, floatBits op .f32 x y = some r → nng r) : nng (aop op .f32 x y) := by
  unfold aop
  cases hf : floatBits op .f32 x y with
  | none => exact nng_nan
  | some r => exact h r hf
theorem nng_sq (x : Nat) : nng (aop .mul .f32 x x) := by
  refine nng_of fun r hr => ?_
  unfold floatBits at hr
  obtain ⟨d, h1, rfl⟩ := Option.map_eq_some_iff.1 hr
  refine nng_write ?_ (product_nan h1).2.2
  cases hx : (FloatKind.format .f32).read x <;> rw [hx] at h1 <;> simp only [Datum.product] at h1
  · cases h1; simp [Datum.neg]
  · cases h1; simp [Datum.neg]
  · cases h1
theorem nng_add {x y : Nat} (hx : nng x) (hy : nng y) : nng (aop .add .f32 x y) := by
  refine nng_of fun r hr => ?_
  unfold floatBits at hr
  obtain ⟨d, h1, rfl⟩ := Option.map_eq_some_iff.1 hr
  refine nng_write ?_ (sum_nan h1).2.2
  unfold nng at hx hy
  have hx : ((FloatKind.format .f32).read x).neg = false := hx
  have hy : ((FloatKind.format .f32).read y).neg = false := hy
  generalize (FloatKind.format .f32).read x = a at *
  generalize (FloatKind.format .f32).read y = b at *
  cases a <;> cases b <;> simp only [Datum.sum] at h1 <;> simp only [Datum.neg] at hx hy <;> subst hx hy
  · cases h1
    show (if _ then _ else _) = false
    split
    · rfl
    · have e1 : ∀ m k, 0 ≤ signed false m k := fun m k => by unfold signed; rw [if_neg (by simp)]; exact Int.natCast_nonneg _
      exact decide_eq_false (Int.not_lt.2 (Int.add_nonneg (e1 _ _) (e1 _ _)))
  · cases h1; rfl
  · cases h1
  · cases h1; rfl
  · rw [if_pos rfl] at h1; cases h1; rfl
  · cases h1
  all_goals cases h1
theorem nng_quo {x y : Nat} (hx : nng x) (hy : nng y) : nng (aop .quo .f32 x y) := by
  refine nng_of fun r hr => ?_
  unfold floatBits at hr
  obtain ⟨d, h1, rfl⟩ := Option.map_eq_some_iff.1 hr
  refine nng_write ?_ (quotient_nan h1).2.2
  unfold nng at hx hy
  have hx : ((FloatKind.format .f32).read x).neg = false := hx
  have hy : ((FloatKind.format .f32).read y).neg = false := hy
  generalize (FloatKind.format .f32).read x = a at *
  generalize (FloatKind.format .f32).read y = b at *
  cases a <;> cases b <;> simp only [Datum.quotient] at h1 <;> simp only [Datum.neg] at hx hy <;> subst hx hy
  all_goals first
    | (cases h1; rfl)
    | (cases h1; done)
    | ((repeat' split at h1) <;> first | (cases h1; rfl) | (cases h1; done))
theorem nng_i2f (n : Nat) : nng (cn .f32 (i2f n)) := by
  have : i2f (n : Int) = single.nearest false n 0 := by
    unfold i2f floatOfInt
    show single.nearest (decide ((n : Int) < 0)) _ 0 = _
    rw [decide_eq_false (by omega)]; rfl
  have h2 : cn .f32 (single.nearest false n 0) = single.nearest false n 0 := cn_num (show isN .f32 _ = false from nearest_nan ..)
  rw [this, h2]
  exact nng_near ..
theorem nng_sumT {tell : Nat → Nat} (h : ∀ k, nng (tell k)) : ∀ n, nng (sumT tell n)
  | 0 => nng_zero
  | n + 1 => nng_add (nng_sumT h n) (h n)
theorem fin_anar_bd {y : Nat} {e : Int} (h : bd y e) (he : e ≤ 126) : fin .f32 (anar y) = true := by
  have hN := bd_nan h
  obtain ⟨s, m, E, hr, hm⟩ := bd_read h
  obtain ⟨h1, _, _⟩ := h
  have hv : anar y = single.nearest s m (-1074 + (E : Int)) := by unfold anar; rw [hN, if_neg (by simp), hr]; rfl
  have hi : (single.read (single.nearest s m (-1074 + (E : Int)))).isInfinity = false := by
    refine single_fin s m _ ?_
    by_cases h0 : m = 0
    · exact .inl h0
    · right
      obtain ⟨b1, _⟩ := log2_bounds (show 0 < m by omega)
      have : 2 ^ (m.log2 + E) ≤ 2 ^ (e + 1074).toNat := by rw [Nat.pow_add]; exact Nat.le_trans (Nat.mul_le_mul_right _ b1) hm
      have := (Nat.pow_le_pow_iff_right (by omega : 1 < 2)).1 this
      omega
  rw [hv]
  unfold fin isN isI
  rw [show (FloatKind.format .f32) = single from rfl, nearest_nan, hi]; rfl
/-- The root of a finite number without a sign is finite. -/
theorem fin_root_of {x : Nat} (h : fin .f32 x = true) (hn : nng x) : fin .f32 (root32 x) = true := by
  obtain ⟨s, m, p, hr⟩ := fin_read h
  obtain rfl : s = false := by unfold nng at hn; rw [hr] at hn; exact hn
  have hlt := (single_parts hr).2.2.2.2.2
  have hw := awide_read hr
  have hsq : ∃ r, double.sqrt (awide x) = some r := by
    unfold Format.sqrt
    rw [hw]
    split
    · exact ⟨_, rfl⟩
    · simp only [Datum.root]
      split
      · exact ⟨_, rfl⟩
      · exact ⟨_, rfl⟩
  obtain ⟨r, hsq⟩ := hsq
  have hN : isN .f64 (asq (awide x)) = false := by unfold asq; rw [hsq]; exact (sqrt_nan hsq).2
  rcases sq_bd (wide_bd hlt) with h1 | h1
  · rw [hN] at h1; cases h1
  · exact fin_anar_bd h1 (by omega)
theorem fin_root_iff {x : Nat} (hn : nng x) : fin .f32 (root32 x) = fin .f32 x := by
  cases h : fin .f32 x
  · exact Bool.eq_false_iff.2 fun h2 => by rw [fin_root h2] at h; cases h
  · exact fin_root_of h hn
theorem sum32_tells {f : Nat → Nat} (hf : ∀ k, cn .f32 (f k) = f k) : ∀ n, sum32 (tells f n) = sumT f n
  | 0 => rfl
  | n + 1 => by
    rw [tells_succ]
    unfold sum32
    rw [List.foldl_append]
    show aop .add .f32 (sum32 (tells f n)) (cn .f32 (f n)) = _
    rw [sum32_tells hf n, hf n]; rfl
end Go.Proofs.Ythlpmbddpenpmaa
