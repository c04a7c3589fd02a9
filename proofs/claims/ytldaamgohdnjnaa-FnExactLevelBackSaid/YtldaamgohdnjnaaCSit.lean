/-
  SineTurns: both narrow the same sine.
-/
import Derived.Test.YtldaamgohdnjnaaCSsp
namespace Go.Proofs.Ytldaamgohdnjnaa
open Ieee Go.RowKit
set_option linter.unusedVariables false

def sine32 (x : Nat) : Nat := anar (sineV (awide x))
theorem wideR_num {x : Nat} (h : isN .f32 x = false) (w : World) : wideR x w = awide x := by unfold wideR; rw [h]; rfl
theorem sineV_wide (x : Nat) (w : World) : sineV (wideR x w) = sineV (awide x) := by
  cases h : isN .f32 x
  · rw [wideR_num h]
  · have h1 : fin .f64 (wideR x w) = false := by rw [fin_wideR]; unfold fin; rw [h]; rfl
    have h2 : fin .f64 (awide x) = false := by unfold fin; rw [isN_awide, h]; rfl
    unfold sineV
    rw [h1, h2, if_neg (by simp), if_neg (by simp)]
theorem sineV_narOk (y : Nat) : narOk (sineV y) := by
  unfold sineV
  split
  · split
    · intro _; decide +kernel
    · rename_i hb
      exact narOk_bd (sineF_bd (tpart_bd (small_bd hb))) (by omega)
  · exact narOk_nan (isN_nanOf _)
theorem cn_sineV (y : Nat) : cn .f64 (sineV y) = sineV y := by
  unfold sineV
  split
  · split
    · decide +kernel
    · rename_i hb
      exact cn_num (bd_nan (sineF_bd (tpart_bd (small_bd hb))))
  · exact cn_nan (isN_nanOf _)
theorem sine_nar {x r : Nat} {w : World} (h : cn .f64 r = sineV (wideR x w)) (w' : World) : cn .f32 (narR r w') = sine32 x := by
  rw [sineV_wide] at h
  have h2 : cn .f64 r = cn .f64 (sineV (awide x)) := by rw [cn_sineV]; exact h
  rw [cn_narR _ _ (narOk_cn h2 (sineV_narOk _)), h]; rfl

end Go.Proofs.Ytldaamgohdnjnaa
