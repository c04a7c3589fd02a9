/-
  'float32(x)' of a 64-bit word, in a run: a word of its own, known up to a not-a-number where the number is not too great.
-/
import Derived.Test.YtopgegciejmhaaaFlr
namespace Go.Proofs.Ytopgegciejmhaaa
open Ieee
def narR (x : Nat) (w : World) : Nat := (floatToFloatBits .f64 x .f32).getD (if isN .f64 x then (Question.nanConv .f32 x).cut (w.tape w.drawn (.nanConv .f32 x)) else (Question.floatToFloat x).cut (w.tape w.drawn (.floatToFloat x)))
def narN (x : Nat) : Nat := if (floatToFloatBits .f64 x .f32).isSome then 0 else 1
@[go_sem] theorem run_narR {P : Program} (w : World) (src dst : TypeId) (hs : P.underlying src = some (.float .f64)) (hd : P.underlying dst = some (.float .f32)) (x : Nat) :
    (convert src dst (.float .f64 x)).run P w = .ok (.float .f32 (narR x w)) (w.drewN (narN x)) := by
  unfold narR narN
  cases hb : floatToFloatBits .f64 x .f32 with
  | some r => rw [run_convert_float_float w src dst .f64 .f32 x r (by rw [hs]; rfl) hd hb]; rfl
  | none =>
    have hb' := hb
    unfold floatToFloatBits at hb'
    rw [if_neg (by decide)] at hb'
    split at hb'
    · rename_i s t hdec
      have hn : isN .f64 x = true := by unfold isN; rw [show (FloatKind.format .f64).read x = .nan s t from hdec]; rfl
      rw [hn]
      simp [convert, run_underlying hs, run_underlying hd, Conv.floatToFloat, hdec, Question.forced]; rfl
    · cases hb'
    · rename_i s m e hdec
      have hn : isN .f64 x = false := by unfold isN; rw [show (FloatKind.format .f64).read x = .number s m e from hdec]; rfl
      split at hb'
      · rename_i ho
        rw [hn]
        simp [convert, run_underlying hs, run_underlying hd, Conv.floatToFloat, hdec, Question.forced, ho]; rfl
      · cases hb'
/-- 'float32(x)' of a 64-bit word, where the number is not too great. -/
def anar (x : Nat) : Nat := if isN .f64 x then nanOf .f32 else single.write (double.read x)
/-- It is not too great. -/
def narOk (x : Nat) : Prop := isN .f64 x = false → (floatToFloatBits .f64 x .f32).isSome = true
theorem anar_cn (x : Nat) : anar (cn .f64 x) = anar x := by
  cases h : isN .f64 x
  · rw [cn_num h]
  · rw [cn_nan h]; unfold anar; rw [isN_nanOf, h]; rfl
theorem cn_anar (x : Nat) : cn .f32 (anar x) = anar x := by
  cases h : isN .f64 x
  · unfold anar; rw [h, if_neg (by simp)]
    exact cn_num (write_nan single _ h)
  · unfold anar; rw [h, if_pos rfl]; exact cn_nan (isN_nanOf _)
theorem nar_some {x r : Nat} (h : floatToFloatBits .f64 x .f32 = some r) : isN .f64 x = false ∧ r = single.write (double.read x) := by
  unfold floatToFloatBits at h
  rw [if_neg (by decide)] at h
  split at h
  · cases h
  · rename_i s hdec
    cases h
    have e : double.read x = .infinity s := hdec
    refine ⟨by unfold isN; rw [show (FloatKind.format .f64).read x = .infinity s from hdec]; rfl, by rw [e]; rfl⟩
  · rename_i s m e hdec
    have e' : double.read x = .number s m e := hdec
    split at h
    · cases h
    · cases h
      exact ⟨by unfold isN; rw [show (FloatKind.format .f64).read x = .number s m e from hdec]; rfl, by rw [e']; rfl⟩
theorem cn_narR (x : Nat) (w : World) (hok : narOk x) : cn .f32 (narR x w) = anar (cn .f64 x) := by
  rw [anar_cn]
  unfold narR
  cases hb : floatToFloatBits .f64 x .f32 with
  | some r =>
    obtain ⟨h1, h2⟩ := nar_some hb
    have : anar x = r := by unfold anar; rw [h1, if_neg (by simp), h2]
    rw [← this]; exact cn_anar x
  | none =>
    have hn : isN .f64 x = true := by
      cases h : isN .f64 x with
      | true => rfl
      | false => have := hok h; rw [hb] at this; cases this
    rw [hn]
    show cn .f32 ((Question.nanConv .f32 x).cut _) = _
    rw [cn_nan (isN_cut_conv ..)]
    unfold anar; rw [hn, if_pos rfl]
theorem nar_zero (w : World) : narR 0 w = 0 := by
  unfold narR
  rw [show floatToFloatBits .f64 0 .f32 = some 0 by decide +kernel]; rfl
theorem nar_neg_zero (w : World) : narR 9223372036854775808 w = 2147483648 := by
  unfold narR
  rw [show floatToFloatBits .f64 9223372036854775808 .f32 = some 2147483648 by decide +kernel]; rfl
end Go.Proofs.Ytopgegciejmhaaa
