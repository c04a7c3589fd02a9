import Derived.Test.YtpaelafopjmklaaRlo
import Derived.Test.YtpaelafopjmklaaCEqf
namespace Go.Proofs.Ytpaelafopjmklaa.fnExactRunLong
open Go.RowKit Ieee
set_option linter.unusedVariables false
set_option maxHeartbeats 2000000 in
set_option maxRecDepth 100000 in
theorem walk (a0 : Nat) (a1 : Nat) (a2 : Int) (w : World) (w0 : (Lit.float .f32 a0).wf = true) (w1 : (Lit.float .f32 a1).wf = true) (w2 : (Lit.int .i64 a2).wf = true) :
    Calls Try.prog 9 #[.float .f32 a0, .float .f32 a1, .int .i64 a2] w fun e w' => e = .returned (.bool true) ∧ Below w.heap.size w w' := by
  clear w0
  clear w1
  clear w2
  have G := Lib.hid (Below.refl w.heap.size w)
  go_enter Try.func9, Try.ntmps9
  go_wp2_with fail
  refine (spRlo_any _ _ _ _  ).mono ?_
  rintro e u1 ⟨r1, hr, rfl, b⟩
  replace G := Lib.hid (G.out.trans (b.mono G.out.size))
  have R1 := Lib.hid hr
  clear hr
  clear b
  go_wp2_with fail
  refine (imRlo_any _ _ _ _  ).mono ?_
  rintro e u2 ⟨r2, hr, rfl, b⟩
  replace G := Lib.hid (G.out.trans (b.mono G.out.size))
  have R2 := Lib.hid hr
  clear hr
  clear b
  go_wp2_with fail
  refine (sameFloat_true _ _ _ (by rw [cn_wideR, cn_wideR, R1.out, R2.out])).mono ?_
  rintro e w' ⟨n, rfl, rfl⟩
  go_wp2
  go_ret
  exact ⟨rfl, below_drewN G.out _⟩
end Go.Proofs.Ytpaelafopjmklaa.fnExactRunLong
