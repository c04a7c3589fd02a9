import Derived.Test.YtimikblbmfhfgaaShl
namespace Go.Proofs.Ytimikblbmfhfgaa.fnExactValidShares
open Go.RowKit Ieee
set_option linter.unusedVariables false
theorem walk (a0 b0 c0 e0 : Nat) (w : World) :
    Calls Try.prog 3 #[.agg #[.float .f32 a0, .float .f32 b0, .float .f32 c0, .float .f32 e0]] w fun e w' => e = .returned (.bool true) ∧ Below w.heap.size w w' := by
  have G := Lib.hid ((Below.refl w.heap.size w).alloc (Nat.le_refl _) (.cells #[.float .f32 a0, .float .f32 b0, .float .f32 c0, .float .f32 e0] 24))
  have hs := Lib.hid (ShIn.new w a0 b0 c0 e0 24)
  go_enter Try.func3, Try.ntmps3
  go_wp2_with fail
  refine (toSh_any _ _ _ _ _).mono ?_
  rintro e u1 ⟨rfl, b⟩
  replace G := Lib.hid (G.out.trans (b.mono G.out.size))
  replace hs := Lib.hid (hs.out.below b)
  clear b
  go_wp2_with fail
  refine (spVSh_any _ _ _ _ _).mono ?_
  rintro e u2 ⟨rfl, b⟩
  replace G := Lib.hid (G.out.trans (b.mono G.out.size))
  replace hs := Lib.hid (hs.out.below b)
  clear b
  obtain ⟨k0, k1, k2, k3⟩ := hs.out
  go_wp2_with fail
  refine (toSh_any _ _ _ _ _).mono ?_
  rintro e u3 ⟨rfl, b⟩
  replace G := Lib.hid (G.out.trans (b.mono G.out.size))
  clear b
  go_wp2_with fail
  refine (imVSh_any _ _ _ _ _).mono ?_
  rintro e u4 ⟨rfl, b⟩
  replace G := Lib.hid (G.out.trans (b.mono G.out.size))
  clear b
  go_wp2
  go_ret
  exact ⟨rfl, G.out⟩
end Go.Proofs.Ytimikblbmfhfgaa.fnExactValidShares
