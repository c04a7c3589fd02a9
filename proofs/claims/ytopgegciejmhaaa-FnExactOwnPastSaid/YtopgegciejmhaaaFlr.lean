/-
  The walk's rules for floats: each operation gives a word of its own ('fopR', 'wideR' ..), which is known up to a not-a-number, behind some draws.
-/
import Derived.Test.YtopgegciejmhaaaFlw
import Derived.Lib.Hide
import Derived.Laws.Entries
namespace Go.Proofs.Ytopgegciejmhaaa
open Ieee

/-- The word that an operation gives in a world; how many draws it costs. -/
def fopR (op : BinOp) (k : FloatKind) (x y : Nat) (w : World) : Nat := (floatBits op k x y).getD ((Question.nanBits k x y).cut (w.tape w.drawn (.nanBits k x y)))
def fopN (op : BinOp) (k : FloatKind) (x y : Nat) : Nat := if (floatBits op k x y).isSome then 0 else 1
theorem cn_fopR (op : BinOp) (k : FloatKind) (x y : Nat) (w : World) : cn k (fopR op k x y w) = aop op k (cn k x) (cn k y) := by
  rw [aop_cn]
  unfold fopR aop
  cases h : floatBits op k x y with
  | none => exact cn_nan (isN_cut_bits ..)
  | some r => exact cn_num (floatBits_nan h).2.2
theorem run_fopR {P : Program} (w : World) (op : BinOp) (hop : op = .add ∨ op = .sub ∨ op = .mul ∨ op = .quo) (t : TypeId) (k : FloatKind) (x y : Nat) :
    (binOp op t (.float k x) (.float k y)).run P w = .ok (.float k (fopR op k x y w)) (w.drewN (fopN op k x y)) := by
  unfold fopR fopN
  cases h : floatBits op k x y with
  | some r => rw [run_float_arith w op t k x y r h]; rfl
  | none =>
    unfold floatBits at h
    rcases hop with rfl | rfl | rfl | rfl <;> simp only at h <;> (simp [binOp, Op.floatArith, h, Question.forced]; rfl)
section
variable {P : Program} (w : World) (t : TypeId) (k : FloatKind) (x y : Nat)
@[go_sem] theorem run_fadd : (binOp .add t (.float k x) (.float k y)).run P w = .ok (.float k (fopR .add k x y w)) (w.drewN (fopN .add k x y)) := run_fopR w _ (by simp) t k x y
@[go_sem] theorem run_fsub : (binOp .sub t (.float k x) (.float k y)).run P w = .ok (.float k (fopR .sub k x y w)) (w.drewN (fopN .sub k x y)) := run_fopR w _ (by simp) t k x y
@[go_sem] theorem run_fmul : (binOp .mul t (.float k x) (.float k y)).run P w = .ok (.float k (fopR .mul k x y w)) (w.drewN (fopN .mul k x y)) := run_fopR w _ (by simp) t k x y
@[go_sem] theorem run_fquo : (binOp .quo t (.float k x) (.float k y)).run P w = .ok (.float k (fopR .quo k x y w)) (w.drewN (fopN .quo k x y)) := run_fopR w _ (by simp) t k x y
end

/-- Comparisons do not see which not-a-number it is. -/
theorem order_left (k : FloatKind) {x x' : Nat} (h : cn k x = cn k x') (y : Nat) : k.format.order x y = k.format.order x' y := by rw [← order_cn k x y, h, order_cn]
theorem order_right (k : FloatKind) (x : Nat) {y y' : Nat} (h : cn k y = cn k y') : k.format.order x y = k.format.order x y' := by rw [← order_cn k x y, h, order_cn]

def wideR (x : Nat) (w : World) : Nat := if isN .f32 x then (Question.nanConv .f64 x).cut (w.tape w.drawn (.nanConv .f64 x)) else awide x
def wideN (x : Nat) : Nat := if isN .f32 x then 1 else 0
theorem cn_wideR (x : Nat) (w : World) : cn .f64 (wideR x w) = awide (cn .f32 x) := by
  rw [awide_cn]
  unfold wideR
  cases h : isN .f32 x
  · rw [if_neg (by simp)]; exact cn_num (by rw [isN_awide]; exact h)
  · rw [if_pos rfl, cn_nan (isN_cut_conv ..)]; unfold awide; rw [h, if_pos rfl]
@[go_sem] theorem run_wideR {P : Program} (w : World) (src dst : TypeId) (hs : P.underlying src = some (.float .f32)) (hd : P.underlying dst = some (.float .f64)) (x : Nat) :
    (convert src dst (.float .f32 x)).run P w = .ok (.float .f64 (wideR x w)) (w.drewN (wideN x)) := by
  unfold wideR wideN
  cases hn : isN .f32 x
  · simp only [Bool.false_eq_true, if_false, World.drewN_zero]
    rcases single_read x with ⟨s, m, p, h, _⟩ | ⟨s, h⟩ | ⟨s, t, h⟩
    · have hw : awide x = double.nearest s m p := by unfold awide; rw [hn, if_neg (by simp), h]; rfl
      have hi : (double.read (double.nearest s m p)).isInfinity = false := by rw [← hw, awide_read h]; split <;> rfl
      have hb : floatToFloatBits .f32 x .f64 = some (double.nearest s m p) := by
        unfold floatToFloatBits
        rw [if_neg (by decide), show FloatKind.decode .f32 x = .number s m p from h]
        simp only [show FloatKind.decode .f64 (FloatKind.encode .f64 (.number s m p)) = double.read (double.nearest s m p) from rfl, hi]
        rfl
      rw [run_convert_float_float w src dst .f32 .f64 x _ (by rw [hs]; rfl) hd hb, hw]
    · have hw : awide x = double.word s double.infRung := by unfold awide; rw [hn, if_neg (by simp), h]; rfl
      have hb : floatToFloatBits .f32 x .f64 = some (double.word s double.infRung) := by
        unfold floatToFloatBits
        rw [if_neg (by decide), show FloatKind.decode .f32 x = .infinity s from h]
        rfl
      rw [run_convert_float_float w src dst .f32 .f64 x _ (by rw [hs]; rfl) hd hb, hw]
    · unfold isN at hn; rw [show (FloatKind.format .f32) = single from rfl, h] at hn; cases hn
  · simp only [if_true]
    rcases single_read x with ⟨s, m, p, h, _⟩ | ⟨s, h⟩ | ⟨s, t, h⟩
    · unfold isN at hn; rw [show (FloatKind.format .f32) = single from rfl, h] at hn; cases hn
    · unfold isN at hn; rw [show (FloatKind.format .f32) = single from rfl, h] at hn; cases hn
    · have hdec : FloatKind.decode .f32 x = .nan s t := h
      simp [convert, run_underlying hs, run_underlying hd, Conv.floatToFloat, hdec, Question.forced]; rfl

/-- A float is returned: its word up to a not-a-number, behind some draws. -/
def RetF (k : FloatKind) (v : Nat) (w : World) (e : Ending) (w' : World) : Prop := ∃ r n, cn k r = v ∧ e = .returned (.float k r) ∧ w.drewN n = w'
/-- A float and a bool. -/
def RetFB (k : FloatKind) (v : Nat) (b : Bool) (w : World) (e : Ending) (w' : World) : Prop := ∃ r n, cn k r = v ∧ e = .returned (.tuple #[.float k r, .bool b]) ∧ w.drewN n = w'
/-- A value, behind some draws. -/
def RetV (v : Value) (w : World) (e : Ending) (w' : World) : Prop := ∃ n, e = .returned v ∧ w.drewN n = w'

@[go_sem] theorem run_store_float (P : Program) (w : World) (a : Addr) (m : Mode) (k : FloatKind) (b : Nat) : (store a (.float k b) m).run P w = stored P w a (.float k b) m := run_store P w a _ m rfl
@[go_sem] theorem run_store_complex (P : Program) (w : World) (a : Addr) (m : Mode) (k : FloatKind) (x y : Nat) : (store a (.complex k x y) m).run P w = stored P w a (.complex k x y) m := run_store P w a _ m rfl

/-- A contract met inside a region that only reads: behind draws. -/
theorem quiet_V {P : Program} {f : FuncId} {args : Array Value} {w : World} {n : Nat} {v : Value} (h : Calls P f args (w.drewN n) (RetV v (w.drewN n))) :
    Calls P f args (w.drewN n) fun e w'' => e = .returned v ∧ ∃ m, w'' = w.drewN m :=
  h.mono fun _ _ ⟨m, he, hw⟩ => ⟨he, n + m, by rw [← hw, World.drewN_drewN]⟩
theorem quiet_add_V {P : Program} {f : FuncId} {args : Array Value} {w : World} {a n : Nat} {v : Value} (h : Calls P f args (w.drewN (a + n)) (RetV v (w.drewN (a + n)))) :
    Calls P f args (w.drewN (a + n)) fun e w'' => e = .returned v ∧ ∃ m, w'' = w.drewN (a + m) :=
  h.mono fun _ _ ⟨m, he, hw⟩ => ⟨he, n + m, by rw [← hw, World.drewN_drewN, Nat.add_assoc]⟩
end Go.Proofs.Ytopgegciejmhaaa
