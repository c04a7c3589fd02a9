/-
  MeanOf of the model.
-/
import Derived.Test.YtnjmkleodaadbaaCMea
namespace Go.Proofs.Ytnjmkleodaadbaa
open Ieee Go.RowKit
set_option linter.unusedVariables false

theorem specMean_any (a : Option Addr) (len cap : Nat) (zs : List Nat) (w : World) (h : FSl w a len zs) (hm : len ≤ 1048576) :
    Calls Try.prog 19 #[.slice a len cap] w (RetFB .f32 (meanR zs) (meanB zs) w) := by
  have H := Lib.hid h
  clear h
  cases hs : serB zs
  · have HS := Lib.hid hs
    have HB := Lib.hid (show meanB zs = false by unfold meanB; rw [hs]; rfl)
    clear hs
    go_enter Try.func19, Try.ntmps19
    go_wp2_with (go_at_call 44; refine (specSeries_any _ _ _ _ _ H.out hm).mono ?_; rw [HS.out]; rintro e w' ⟨m, rfl, rfl⟩)
    go_ret2
    exact ⟨_, m, by unfold meanR; rw [HB.out]; exact cn_zero, by rw [HB.out]; rfl, rfl⟩
  · have HS := Lib.hid hs
    have HB := Lib.hid (show meanB zs = fin .f32 (mean32 zs) by unfold meanB; rw [hs]; rfl)
    clear hs
    go_enter Try.func19, Try.ntmps19
    go_wp2_with fail
    refine (specSeries_any _ _ _ _ _ H.out hm).mono ?_
    rw [HS.out]
    rintro e w' ⟨m, rfl, rfl⟩
    go_wp2_with fail
    refine (l02Mean_any _ _ _ _ _ (FSl.drewN H.out m) hm).mono ?_
    rintro e w' ⟨r, n, hr, rfl, rfl⟩
    have HR := Lib.hid hr
    clear hr
    go_wp2_with fail
    refine (specNumber_any _ _).mono ?_
    rintro e w' ⟨r', n', hr', rfl, rfl⟩
    have HR' := Lib.hid hr'
    clear hr'
    go_wp2
    go_ret2
    have W := mean_word HR'.out HB.out HR.out
    exact ⟨r', _, W.1, by rw [← W.2]; rfl, rfl⟩
theorem specIsSer_any (a : Option Addr) (len cap : Nat) (zs : List Nat) (w : World) (h : FSl w a len zs) (hm : len ≤ 1048576) :
    Calls Try.prog 15 #[.slice a len cap] w (RetV (.bool (serB zs)) w) := by
  have H := Lib.hid h
  clear h
  go_enter Try.func15, Try.ntmps15
  go_wp2_with (go_at_call 44; refine (specSeries_any _ _ _ _ _ H.out hm).mono ?_; rintro e w' ⟨m, rfl, rfl⟩)
  go_ret
  exact ⟨m, rfl, rfl⟩
end Go.Proofs.Ytnjmkleodaadbaa
