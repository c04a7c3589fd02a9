/-
  The sine of turns, as a plain function of words, and how great what comes on the way can be.
-/
import Derived.Test.YtopgegciejmhaaaFlt
namespace Go.Proofs.Ytopgegciejmhaaa
open Ieee
set_option linter.unusedVariables false
set_option linter.unusedSimpArgs false

theorem ex_of_bd {op : BinOp} {x y : Nat} {e : Int} (h : bd (aop op .f64 x y) e) : floatBits op .f64 x y = some (aop op .f64 x y) := by
  unfold aop at *
  cases h1 : floatBits op .f64 x y with
  | some r => rfl
  | none => rw [h1] at h; have := bd_nan h; rw [show (none : Option Nat).getD (nanOf .f64) = nanOf .f64 from rfl, isN_nanOf] at this; cases this
theorem fopR_some {op : BinOp} {k : FloatKind} {x y r : Nat} (h : floatBits op k x y = some r) (w : World) : fopR op k x y w = r := by unfold fopR; rw [h]; rfl
theorem fopN_some {op : BinOp} {k : FloatKind} {x y r : Nat} (h : floatBits op k x y = some r) : fopN op k x y = 0 := by unfold fopN; rw [h]; rfl
theorem fopR_ex {op : BinOp} {x y : Nat} {e : Int} (h : bd (aop op .f64 x y) e) (w : World) : fopR op .f64 x y w = aop op .f64 x y := fopR_some (ex_of_bd h) w
theorem fopN_ex {op : BinOp} {x y : Nat} {e : Int} (h : bd (aop op .f64 x y) e) : fopN op .f64 x y = 0 := fopN_some (ex_of_bd h)

/-- 'int64' of a small number, in a run. -/
theorem run_toI {P : Program} {src dst : TypeId} (hs : P.underlying src = some (.float .f64)) (hd : P.underlying dst = some (.int .i64)) {x : Nat} (h : bd x 52) (w : World) :
    (convert src dst (.float .f64 x)).run P w = .ok (.int .i64 (toI x)) w :=
  run_convert_float_int w src dst .f64 .i64 x (toI x) (by rw [hs]; rfl) hd (toI_val h)

def ge64 (x c : Nat) : Bool := double.order x c == some .gt || double.order x c == some .eq
def gt64 (x c : Nat) : Bool := double.order x c == some .gt
def lt64 (x c : Nat) : Bool := double.order x c == some .lt
def one64 : Nat := 4607182418800017408
def half64 : Nat := 4602678819172646912
def quar64 : Nat := 4598175219545276416
def tau64 : Nat := 4618760256179416344

/-- What is left of turns. -/
def tfrac (x : Nat) : Nat := aop .sub .f64 x (floatOfInt .f64 (toI x))
def tpart (x : Nat) : Nat := if lt64 (tfrac x) 0 then aop .add .f64 (tfrac x) one64 else tfrac x
theorem bd_one : bd one64 0 := by unfold bd one64; decide +kernel
theorem bd_half : bd half64 (-1) := by unfold bd half64; decide +kernel
theorem bd_quar : bd quar64 (-2) := by unfold bd quar64; decide +kernel
theorem bd_tau : bd tau64 3 := by unfold bd tau64; decide +kernel
theorem tfrac_bd {x : Nat} (h : bd x 52) : bd (tfrac x) 0 := part_bd h
theorem tadd_bd {x : Nat} (h : bd x 52) : bd (aop .add .f64 (tfrac x) one64) 1 := bd_add (tfrac_bd h) bd_one (by omega) (by omega) (by omega)
theorem tpart_bd {x : Nat} (h : bd x 52) : bd (tpart x) 1 := by
  unfold tpart
  split
  · exact tadd_bd h
  · exact bd_mono (tfrac_bd h) (by omega) (by omega)

/-- 2 k (2 k + 1). -/
def dk (k : Nat) : Nat := floatOfInt .f64 ((2 * k * (2 * k + 1) : Nat) : Int)
def kw (k : Nat) : Nat := floatOfInt .f64 (k : Int)
theorem dk_lb : ∀ k, k < 9 → 1 ≤ k → lb (dk k) 2 := by unfold lb dk; decide +kernel
def sinTo (u : Nat) : Nat → Nat
  | 0 => one64
  | i + 1 => aop .sub .f64 one64 (aop .quo .f64 (aop .mul .f64 u (sinTo u i)) (dk (8 - i)))
theorem sin_mul {u : Nat} {i : Nat} (hu : bd u 12) (hi : i ≤ 8) (h : bd (sinTo u i) (11 * i)) : bd (aop .mul .f64 u (sinTo u i)) (12 + 11 * i) := bd_mul hu h (by omega) (by omega)
theorem sin_quo {u : Nat} {i : Nat} (hu : bd u 12) (hi : i < 8) (h : bd (sinTo u i) (11 * i)) : bd (aop .quo .f64 (aop .mul .f64 u (sinTo u i)) (dk (8 - i))) (12 + 11 * i - 2) :=
  bd_quo (sin_mul hu (by omega) h) (dk_lb (8 - i) (by omega) (by omega)) (by omega) (by omega)
theorem sin_sub {u : Nat} {i : Nat} (hu : bd u 12) (hi : i < 8) (h : bd (sinTo u i) (11 * i)) : bd (sinTo u (i + 1)) (11 * (i + 1 : Nat)) := by
  unfold sinTo
  exact bd_sub bd_one (sin_quo hu hi h) (by omega) (by omega) (by omega)
theorem sin_bd {u : Nat} (hu : bd u 12) : ∀ i, i ≤ 8 → bd (sinTo u i) (11 * i)
  | 0, _ => bd_one
  | i + 1, h => sin_sub hu (by omega) (sin_bd hu i (by omega))

def sfold1 (f : Nat) : Nat := if ge64 f half64 then aop .sub .f64 f half64 else f
def sfold (f : Nat) : Nat := if gt64 (sfold1 f) quar64 then aop .sub .f64 half64 (sfold1 f) else sfold1 f
def sz (f : Nat) : Nat := aop .mul .f64 (sfold f) tau64
def su (f : Nat) : Nat := aop .mul .f64 (sz f) (sz f)
def sr0 (f : Nat) : Nat := aop .mul .f64 (sz f) (sinTo (su f) 8)
/-- The sine of what is left of turns. -/
def sineF (f : Nat) : Nat := if ge64 f half64 then Op.negFloat .f64 (sr0 f) else sr0 f
theorem fold1_sub {f : Nat} (h : bd f 1) : bd (aop .sub .f64 f half64) 2 := bd_sub h bd_half (by omega) (by omega) (by omega)
theorem fold1_bd {f : Nat} (h : bd f 1) : bd (sfold1 f) 2 := by
  unfold sfold1
  split
  · exact fold1_sub h
  · exact bd_mono h (by omega) (by omega)
theorem fold_sub {f : Nat} (h : bd f 1) : bd (aop .sub .f64 half64 (sfold1 f)) 3 := bd_sub bd_half (fold1_bd h) (by omega) (by omega) (by omega)
theorem fold_bd {f : Nat} (h : bd f 1) : bd (sfold f) 3 := by
  unfold sfold
  split
  · exact fold_sub h
  · exact bd_mono (fold1_bd h) (by omega) (by omega)
theorem sz_bd {f : Nat} (h : bd f 1) : bd (sz f) 6 := bd_mul (fold_bd h) bd_tau (by omega) (by omega)
theorem su_bd {f : Nat} (h : bd f 1) : bd (su f) 12 := bd_mul (sz_bd h) (sz_bd h) (by omega) (by omega)
theorem sr0_bd {f : Nat} (h : bd f 1) : bd (sr0 f) 94 := bd_mul (sz_bd h) (sin_bd (su_bd h) 8 (by omega)) (by omega) (by omega)
theorem neg_bd {x : Nat} {e : Int} (h : bd x e) : bd (Op.negFloat .f64 x) e := by
  obtain ⟨h1, h2, h3⟩ := h
  refine ⟨h1, h2, ?_⟩
  have : Op.negFloat .f64 x % 9223372036854775808 = x % 9223372036854775808 := by
    show (x ^^^ 2 ^ 63) % 2 ^ 63 = x % 2 ^ 63
    rw [Nat.xor_mod_two_pow, Nat.mod_self, Nat.xor_zero]
  rw [this]; exact h3
theorem sineF_bd {f : Nat} (h : bd f 1) : bd (sineF f) 94 := by
  unfold sineF
  split
  · exact neg_bd (sr0_bd h)
  · exact sr0_bd h

/-- The counter of the program's loop is a float. -/
theorem kw_mul : ∀ k, k < 9 → floatBits .mul .f64 4611686018427387904 (kw k) = some (kw (2 * k)) := by unfold kw; decide +kernel
theorem kw_add : ∀ k, k < 9 → floatBits .add .f64 (kw (2 * k)) 4607182418800017408 = some (kw (2 * k + 1)) := by unfold kw; decide +kernel
theorem kw_dk : ∀ k, k < 9 → floatBits .mul .f64 (kw (2 * k)) (kw (2 * k + 1)) = some (dk k) := by unfold kw dk; decide +kernel
theorem kw_pred : ∀ k, k < 9 → 1 ≤ k → floatBits .sub .f64 (kw k) 4607182418800017408 = some (kw (k - 1)) := by unfold kw; decide +kernel
theorem kw_ge : ∀ k, k < 9 → (((FloatKind.format .f64).order (kw k) 4607182418800017408 == some Ordering.gt) || ((FloatKind.format .f64).order (kw k) 4607182418800017408 == some Ordering.eq)) = decide (1 ≤ k) := by unfold kw; decide +kernel
theorem kw_lt : ∀ k, k < 9 → 1 ≤ k → kw (k - 1) < kw k := by unfold kw; decide +kernel
theorem kw_8 : kw 8 = 4620693217682128896 := by unfold kw; decide +kernel
end Go.Proofs.Ytopgegciejmhaaa
