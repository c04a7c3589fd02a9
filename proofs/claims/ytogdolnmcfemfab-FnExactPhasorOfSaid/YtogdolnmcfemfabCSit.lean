/-
  SineTurns: both narrow the same sine.
-/
import Derived.Test.YtogdolnmcfemfabCSsp
namespace Go.Proofs.Ytogdolnmcfemfab
open Ieee Go.RowKit
set_option linter.unusedVariables false

def sine32 (x : Nat) : Nat := anar (sineV (awide x))
theorem wideR_num {x : Nat} (h : isN .f32 x = false) (w : World) : wideR x w = awide x := by unfold wideR; rw [h]; rfl
theorem sineV_wide (x : Nat) (w : World) : sineV (wideR x w) = sineV (awide x) := by
  cases h : isN .f32 x
  · rw [wideR_num h]
  · have h1 : fin .f64 (wideR x w) = false := by rw [fin_wideR]; unfold fin; rw [h]; rfl
    have h2 : fin .f64 (awide x) = false := by unfold fin; rw [isN_awide, h]; rfl
    unfold sineV
    rw [h1, h2, if_neg (by simp), if_neg (by simp)]
theorem sineV_narOk (y : Nat) : narOk (sineV y) := by
  unfold sineV
  split
  · split
    · intro _; decide +kernel
    · rename_i hb
      exact narOk_bd (sineF_bd (tpart_bd (small_bd hb))) (by omega)
  · exact narOk_nan (isN_nanOf _)
theorem cn_sineV (y : Nat) : cn .f64 (sineV y) = sineV y := by
  unfold sineV
  split
  · split
    · decide +kernel
    · rename_i hb
      exact cn_num (bd_nan (sineF_bd (tpart_bd (small_bd hb))))
  · exact cn_nan (isN_nanOf _)
theorem sine_nar {x r : Nat} {w : World} (h : cn .f64 r = sineV (wideR x w)) (w' : World) : cn .f32 (narR r w') = sine32 x := by
  rw [sineV_wide] at h
  have h2 : cn .f64 r = cn .f64 (sineV (awide x)) := by rw [cn_sineV]; exact h
  rw [cn_narR _ _ (narOk_cn h2 (sineV_narOk _)), h]; rfl

theorem specSineTurns_any (x : Nat) (w : World) : Calls Try.prog 28 #[.float .f32 x] w (RetF .f32 (sine32 x) w) := by
  go_enter Try.func28, Try.ntmps28
  go_wp2_with (first | (go_at_call 50; refine (specSine_any _ _).mono ?_; rintro e w' ⟨r, n, hr, rfl, rfl⟩; have Hr := Lib.hid hr; clear hr) | (go_at_call 48; go_in))
  go_ret
  exact ⟨_, _, sine_nar Hr.out _, rfl, rfl⟩

theorem implSineTurns_any (x : Nat) (w : World) : Calls Try.prog 14 #[.float .f32 x] w (RetF .f32 (sine32 x) w) := by
  have hl := Lib.hid (fun w => wideR_lt x w)
  cases hf : fin .f32 x
  · have hv : sine32 x = nanOf .f32 := by
      have h2 : fin .f64 (awide x) = false := by
        rw [← fin_wideR x w] at hf
        have := fin_congr (k := .f64) (x := wideR x w) (y := awide x) (by rw [cn_wideR, awide_cn, cn_awide])
        rw [← this]; exact hf
      unfold sine32 sineV
      rw [h2, if_neg (by simp)]
      unfold anar; rw [isN_nanOf]; rfl
    have Hv := Lib.hid hv
    have Hf := Lib.hid (fun w => (fin_wideR x w).trans hf)
    clear hv hf
    go_enter Try.func14, Try.ntmps14
    go_wp2_with (first | (go_at_call 29; refine (isFinite64_any _ _ (hl.out _)).mono ?_; rw [Hf.out]; rintro e w' ⟨n, rfl, rfl⟩) | (go_at_call 30; go_in))
    go_ret
    exact ⟨_, _, by rw [Hv.out]; exact (cn_narR _ _ (narOk_nan (by decide +kernel))).trans (by decide +kernel), rfl, rfl⟩
  · have hN : isN .f32 x = false := by
      unfold fin at hf
      cases h2 : isN .f32 x
      · rfl
      · rw [h2] at hf; cases hf
    have hw := fun w => wideR_num hN w
    have hfv : fin .f64 (awide x) = true := by rw [← wideR_num hN w, fin_wideR]; exact hf
    have hN64 : isN .f64 (awide x) = false := by rw [isN_awide]; exact hN
    have hb := big_abs (awide x) hN64
    have hV : sine32 x = anar (if bigW ≤ awide x % 9223372036854775808 then 0 else sineF (tpart (awide x))) := by
      unfold sine32 sineV; rw [hfv, if_pos rfl]
    have HF := Lib.hid hfv
    have hal := Lib.hid (awide_lt x)
    clear hf hfv hN64 hN hl
    by_cases hbig : bigW ≤ awide x % 9223372036854775808
    · rw [if_pos hbig] at hV
      rw [decide_eq_true hbig] at hb
      have HV := Lib.hid hV
      clear hV hbig
      go_enter Try.func14, Try.ntmps14
      go_wp2_with (first | (go_at_call 29; refine (isFinite64_any _ _ hal.out).mono ?_; rw [HF.out]; rintro e w' ⟨n, rfl, rfl⟩) | (go_at_call 31; refine (abs_any _ _ hal.out).mono ?_; rintro e w' ⟨m, rfl, rfl⟩))
      go_ret
      exact ⟨0, _, by rw [HV.out]; decide +kernel, rfl, rfl⟩
    · rw [if_neg hbig] at hV
      rw [decide_eq_false hbig] at hb
      have HV := Lib.hid hV
      have hB := Lib.hid (small_bd hbig)
      clear hV hbig
      go_enter Try.func14, Try.ntmps14
      go_wp2_with (first | (go_at_call 29; refine (isFinite64_any _ _ hal.out).mono ?_; rw [HF.out]; rintro e w' ⟨n, rfl, rfl⟩) | (go_at_call 31; refine (abs_any _ _ hal.out).mono ?_; rintro e w' ⟨m, rfl, rfl⟩) | (go_at_call 32; refine (implSine_any _ _ hB.out).mono ?_; rintro e w' ⟨rfl, rfl⟩))
      go_ret
      have hs := sineF_bd (tpart_bd hB.out)
      exact ⟨_, _, by rw [HV.out]; exact (cn_narR _ _ (narOk_bd hs (by omega))).trans (by rw [anar_cn]), rfl, rfl⟩
end Go.Proofs.Ytogdolnmcfemfab
