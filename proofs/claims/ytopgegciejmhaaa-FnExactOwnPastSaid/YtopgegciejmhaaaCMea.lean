/-
  Means, in both packages.
-/
import Derived.Test.YtopgegciejmhaaaCSer
import Derived.Test.YtopgegciejmhaaaCSui
import Derived.Laws.Cover2
namespace Go.Proofs.Ytopgegciejmhaaa
open Ieee Go.RowKit
set_option linter.unusedVariables false

/-- A small integer as a 32-bit float. -/
def i2f (n : Int) : Nat := floatOfInt .f32 n
def mean32 (zs : List Nat) : Nat := aop .quo .f32 (sum32 zs) (cn .f32 (i2f zs.length))
def meanB (zs : List Nat) : Bool := serB zs && fin .f32 (mean32 zs)
def meanR (zs : List Nat) : Nat := if meanB zs then mean32 zs else 0

theorem cn_mean (zs : List Nat) : cn .f32 (mean32 zs) = mean32 zs := cn_aop ..
theorem mean_word {zs : List Nat} {r x : Nat} (h : cn .f32 r = if fin .f32 x then cn .f32 x else 0) (hB : meanB zs = fin .f32 (mean32 zs)) (hx : cn .f32 x = mean32 zs) : cn .f32 r = meanR zs ∧ fin .f32 x = meanB zs := by
  have hf : fin .f32 x = fin .f32 (mean32 zs) := fin_congr (hx.trans (cn_mean zs).symm)
  rw [h, hf, hx, hB]
  unfold meanR
  rw [hB]
  exact ⟨rfl, rfl⟩
theorem implMean_any (a : Option Addr) (len cap : Nat) (zs : List Nat) (w : World) (h : FSl w a len zs) (hm : len ≤ 1048576) :
    Calls Try.prog 120 #[.slice a len cap] w (RetFB .f32 (meanR zs) (meanB zs) w) := by
  have H := Lib.hid h
  have HL := Lib.hid h.1
  clear h
  cases hs : serB zs
  · have HS := Lib.hid hs
    have HB := Lib.hid (show meanB zs = false by unfold meanB; rw [hs]; rfl)
    clear hs
    go_enter Try.func120, Try.ntmps120
    go_wp2_with (go_at_call 89; refine (implSeries_any _ _ _ _ _ H.out hm).mono ?_; rw [HS.out]; rintro e w' ⟨m, rfl, rfl⟩)
    go_ret2
    exact ⟨_, m, by unfold meanR; rw [HB.out]; exact cn_zero, by rw [HB.out]; rfl, rfl⟩
  · have HS := Lib.hid hs
    have HB := Lib.hid (show meanB zs = fin .f32 (mean32 zs) by unfold meanB; rw [hs]; rfl)
    have hl : len ≤ 96 := by have := (serB_t hs).2.1; rw [← HL.out]; exact this
    clear hs
    go_enter Try.func120, Try.ntmps120
    go_wp2_with fail
    refine (implSeries_any _ _ _ _ _ H.out hm).mono ?_
    rw [HS.out]
    rintro e w' ⟨m, rfl, rfl⟩
    go_wp2_with fail
    refine (implSumNumbers_any _ _ _ _ _ (FSl.drewN H.out m) hm).mono ?_
    rw [if_pos (show len ≤ 256 by omega), decide_eq_true (show len ≤ 256 by omega)]
    rintro e w' ⟨r, n, hr, rfl, rfl⟩
    have HR := Lib.hid hr
    clear hr
    go_wp2_with fail
    refine (implOnly_any _ _).mono ?_
    rintro e w' ⟨r', n', hr', rfl, rfl⟩
    have HR' := Lib.hid hr'
    clear hr'
    go_wp2
    go_ret2
    have W := mean_word HR'.out HB.out (by rw [cn_fopR, HR.out]; unfold mean32 i2f; rw [HL.out])
    exact ⟨r', _, W.1, by rw [← W.2]; rfl, rfl⟩
end Go.Proofs.Ytopgegciejmhaaa
