/-
  Floats up to the choice of a not-a-number: every not-a-number of a kind is taken for one word ('cn'); the four
  operations, conversions, roots and comparisons as plain functions of these words ('aop', 'awide', 'anarrow' ..); the walk's laws.
-/
import Derived.WalkKit
import Derived.WalkLawsBesides
import Derived.WalkSpells
import Derived.Deep.Draws
import Derived.KernelRfl
namespace Go.Proofs.Ytopgegciejmhaaa
open Ieee

/-- The word that stands for every not-a-number of a kind. -/
def nanOf : FloatKind → Nat
  | .f32 => 2143289344
  | .f64 => 9221120237041090560

def isN (k : FloatKind) (x : Nat) : Bool := (k.format.read x).isNaN
def cn (k : FloatKind) (x : Nat) : Nat := if isN k x then nanOf k else x

theorem isN_nanOf (k : FloatKind) : isN k (nanOf k) = true := by cases k <;> decide +kernel
theorem cn_nan {k : FloatKind} {x : Nat} (h : isN k x = true) : cn k x = nanOf k := by simp [cn, h]
theorem cn_num {k : FloatKind} {x : Nat} (h : isN k x = false) : cn k x = x := by simp [cn, h]
theorem isN_cn (k : FloatKind) (x : Nat) : isN k (cn k x) = isN k x := by
  cases h : isN k x
  · rw [cn_num h, h]
  · rw [cn_nan h, isN_nanOf]
theorem cn_cn (k : FloatKind) (x : Nat) : cn k (cn k x) = cn k x := by
  cases h : isN k x
  · rw [cn_num h, cn_num h]
  · rw [cn_nan h, cn_nan (isN_nanOf k)]
theorem isN_congr {k : FloatKind} {x y : Nat} (h : cn k x = cn k y) : isN k x = isN k y := by
  rw [← isN_cn k x, h, isN_cn]

/-! ### A word that is written is no not-a-number, but of one -/
theorem width_pos (f : Format) : 0 < f.signWeight := Nat.two_pow_pos _
theorem read_word_nan (f : Format) (neg : Bool) {rung : Nat} (h : rung ≤ f.infRung) : (f.read (f.word neg rung)).isNaN = false := by
  have hs := f.infRung_lt
  have hr : (f.word neg rung) % f.signWeight = rung := by
    unfold Format.word
    split
    · rw [Nat.add_mod_left]; exact Nat.mod_eq_of_lt (by omega)
    · exact Nat.mod_eq_of_lt (by omega)
  unfold Format.read
  simp only [hr]
  split
  · rfl
  · split
    · rfl
    · rw [if_pos (by omega)]; rfl
theorem nearest_nan (f : Format) (neg : Bool) (mag : Nat) (place : Int) : (f.read (f.nearest neg mag place)).isNaN = false := by
  unfold Format.nearest
  dsimp only
  split
  · exact read_word_nan f neg (Nat.zero_le _)
  · exact read_word_nan f neg (Nat.min_le_right ..)
theorem write_nan (f : Format) (d : Datum) (h : d.isNaN = false) : (f.read (f.write d)).isNaN = false := by
  cases d with
  | number neg mag place => exact nearest_nan f neg mag place
  | infinity neg => exact read_word_nan f neg (Nat.le_refl _)
  | nan neg t => cases h

/-! ### The four operations -/
theorem sum_nan {d e r : Datum} (h : d.sum e = some r) : d.isNaN = false ∧ e.isNaN = false ∧ r.isNaN = false := by
  cases d <;> cases e <;> simp only [Datum.sum] at h <;> first | cases h; done | (split at h <;> first | (cases h; done) | (cases h; exact ⟨rfl, rfl, rfl⟩)) | (cases h; exact ⟨rfl, rfl, rfl⟩)
theorem product_nan {d e r : Datum} (h : d.product e = some r) : d.isNaN = false ∧ e.isNaN = false ∧ r.isNaN = false := by
  cases d <;> cases e <;> simp only [Datum.product] at h <;> first | cases h; done | (split at h <;> first | (cases h; done) | (cases h; exact ⟨rfl, rfl, rfl⟩)) | (cases h; exact ⟨rfl, rfl, rfl⟩)
theorem quotient_nan {n : Nat} {d e r : Datum} (h : d.quotient n e = some r) : d.isNaN = false ∧ e.isNaN = false ∧ r.isNaN = false := by
  cases d <;> cases e <;> simp only [Datum.quotient] at h <;> first | cases h; done | (cases h; exact ⟨rfl, rfl, rfl⟩) | (repeat' split at h) <;> first | (cases h; done) | (cases h; exact ⟨rfl, rfl, rfl⟩)
theorem opposite_nan (d : Datum) : d.opposite.isNaN = d.isNaN := by cases d <;> rfl

theorem floatBits_nan {op : BinOp} {k : FloatKind} {x y r : Nat} (h : floatBits op k x y = some r) : isN k x = false ∧ isN k y = false ∧ isN k r = false := by
  unfold floatBits at h
  split at h
  · obtain ⟨d, h1, rfl⟩ := Option.map_eq_some_iff.1 h
    obtain ⟨a, b, c⟩ := sum_nan h1
    exact ⟨a, b, write_nan _ _ c⟩
  · obtain ⟨d, h1, rfl⟩ := Option.map_eq_some_iff.1 h
    obtain ⟨a, b, c⟩ := sum_nan h1
    exact ⟨a, by rw [opposite_nan] at b; exact b, write_nan _ _ c⟩
  · obtain ⟨d, h1, rfl⟩ := Option.map_eq_some_iff.1 h
    obtain ⟨a, b, c⟩ := product_nan h1
    exact ⟨a, b, write_nan _ _ c⟩
  · obtain ⟨d, h1, rfl⟩ := Option.map_eq_some_iff.1 h
    obtain ⟨a, b, c⟩ := quotient_nan h1
    exact ⟨a, b, write_nan _ _ c⟩
  · cases h
theorem floatBits_cn (op : BinOp) (k : FloatKind) (x y : Nat) : floatBits op k (cn k x) (cn k y) = floatBits op k x y := by
  cases hx : isN k x
  · cases hy : isN k y
    · rw [cn_num hx, cn_num hy]
    · cases h1 : floatBits op k x y with
      | some r => have := (floatBits_nan h1).2.1; rw [hy] at this; cases this
      | none => cases h2 : floatBits op k (cn k x) (cn k y) with
        | none => rfl
        | some r => have := (floatBits_nan h2).2.1; rw [isN_cn, hy] at this; cases this
  · cases h1 : floatBits op k x y with
    | some r => have := (floatBits_nan h1).1; rw [hx] at this; cases this
    | none => cases h2 : floatBits op k (cn k x) (cn k y) with
      | none => rfl
      | some r => have := (floatBits_nan h2).1; rw [isN_cn, hx] at this; cases this

/-- An operation on the words. -/
def aop (op : BinOp) (k : FloatKind) (x y : Nat) : Nat := (floatBits op k x y).getD (nanOf k)
theorem aop_cn (op : BinOp) (k : FloatKind) (x y : Nat) : aop op k (cn k x) (cn k y) = aop op k x y := by simp only [aop, floatBits_cn]
theorem cn_aop (op : BinOp) (k : FloatKind) (x y : Nat) : cn k (aop op k x y) = aop op k x y := by
  unfold aop
  cases h : floatBits op k x y with
  | none => exact cn_nan (isN_nanOf k)
  | some r => exact cn_num (floatBits_nan h).2.2

/-- What the tape answers for a not-a-number is one. -/
theorem isN_cut_bits (k : FloatKind) (x y t : Nat) : isN k ((Question.nanBits k x y).cut t) = true := by
  cases k
  · show ((Ieee.single).read ((t % 2) * 2 ^ 31 + 0x7f800000 + 1 + (t / 2) % (2 ^ 23 - 1))).isNaN = true
    unfold Format.read
    have e1 : Ieee.single.signWeight = 2147483648 := by decide
    have e2 : Ieee.single.binade = 8388608 := by decide
    have e3 : Ieee.single.infRung = 2139095040 := by decide
    simp only [e1, e2, e3]
    have h1 : ((t % 2) * 2 ^ 31 + 0x7f800000 + 1 + (t / 2) % (2 ^ 23 - 1)) % 2147483648 = 2139095041 + (t / 2) % 8388607 := by omega
    rw [h1, if_neg (by omega), if_neg (by omega), if_neg (by omega)]
    rfl
  · show ((Ieee.double).read ((t % 2) * 2 ^ 63 + 0x7ff0000000000000 + 1 + (t / 2) % (2 ^ 52 - 1))).isNaN = true
    unfold Format.read
    have e1 : Ieee.double.signWeight = 9223372036854775808 := by decide
    have e2 : Ieee.double.binade = 4503599627370496 := by decide
    have e3 : Ieee.double.infRung = 9218868437227405312 := by decide
    simp only [e1, e2, e3]
    have h1 : ((t % 2) * 2 ^ 63 + 0x7ff0000000000000 + 1 + (t / 2) % (2 ^ 52 - 1)) % 9223372036854775808 = 9218868437227405313 + (t / 2) % 4503599627370495 := by omega
    rw [h1, if_neg (by omega), if_neg (by omega), if_neg (by omega)]
    rfl
theorem isN_cut_conv (k : FloatKind) (x t : Nat) : isN k ((Question.nanConv k x).cut t) = true := by
  have h := isN_cut_bits k x x t
  cases k <;> exact h

/-- ONE OPERATION: some word, some draws; the word up to not-a-numbers is the operation's. -/
theorem run_fop {P : Program} (w : World) (op : BinOp) (hop : op = .add ∨ op = .sub ∨ op = .mul ∨ op = .quo) (t : TypeId) (k : FloatKind) (x y : Nat) :
    ∃ r n, (binOp op t (.float k x) (.float k y)).run P w = .ok (.float k r) (w.drewN n) ∧ cn k r = aop op k (cn k x) (cn k y) := by
  rw [aop_cn]
  cases h : floatBits op k x y with
  | some r => exact ⟨r, 0, by rw [run_float_arith w op t k x y r h]; rfl, by simp only [aop, h]; exact cn_num (floatBits_nan h).2.2⟩
  | none =>
    refine ⟨(Question.nanBits k x y).cut (w.tape w.drawn (.nanBits k x y)), 1, ?_, ?_⟩
    · unfold floatBits at h
      rcases hop with rfl | rfl | rfl | rfl <;> simp only at h <;> (simp [binOp, Op.floatArith, h, Question.forced]; rfl)
    · simp only [aop, h]; exact cn_nan (isN_cut_bits ..)

/-! ### Comparisons -/
theorem order_nan_left {d e : Datum} (h : d.isNaN = true) : d.order e = none := by cases d <;> first | (cases h; done) | (cases e <;> rfl)
theorem order_nan_right {d e : Datum} (h : e.isNaN = true) : d.order e = none := by cases e <;> first | (cases h; done) | (cases d <;> rfl)
theorem order_cn (k : FloatKind) (x y : Nat) : k.format.order (cn k x) (cn k y) = k.format.order x y := by
  unfold Format.order
  cases hx : isN k x
  · cases hy : isN k y
    · rw [cn_num hx, cn_num hy]
    · rw [order_nan_right (show (k.format.read (cn k y)).isNaN = true from (isN_cn k y).trans hy), order_nan_right (show (k.format.read y).isNaN = true from hy)]
  · rw [order_nan_left (show (k.format.read (cn k x)).isNaN = true from (isN_cn k x).trans hx), order_nan_left (show (k.format.read x).isNaN = true from hx)]
theorem order_self_num {d : Datum} (h : d.isNaN = false) : d.order d = some .eq := by
  cases d with
  | nan _ _ => cases h
  | infinity s => simp [Datum.order]
  | number s m i => simp [Datum.order]
theorem order_self (k : FloatKind) (x : Nat) : k.format.order x x = if isN k x then none else some .eq := by
  unfold Format.order
  cases h : isN k x
  · rw [order_self_num h]; rfl
  · rw [order_nan_left (show (k.format.read x).isNaN = true from h)]; rfl
end Go.Proofs.Ytopgegciejmhaaa
