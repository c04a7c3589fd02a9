import Derived.Test.YthohhiaeaefdcaaLvl
namespace Go.Proofs.Ythohhiaeaefdcaa.fnExactValidLevel
open Go.RowKit Ieee
set_option linter.unusedVariables false
theorem walk (x0_0 x0_1 x0_2 x0_3 : Nat) (w : World) :
    Calls Try.prog 3 #[.agg #[.float .f32 x0_0, .float .f32 x0_1, .float .f32 x0_2, .float .f32 x0_3]] w fun e w' => e = .returned (.bool true) ∧ Below w.heap.size w w' := by
  have G := Lib.hid ((Below.refl w.heap.size w).alloc (Nat.le_refl _) (.cells #[.float .f32 x0_0, .float .f32 x0_1, .float .f32 x0_2, .float .f32 x0_3] 24))
  have hs := Lib.hid (NumsIn.new w [x0_0, x0_1, x0_2, x0_3] 24)
  go_enter Try.func3, Try.ntmps3
  go_wp2_with fail
  refine (tolv_any _ _ _ _ _).mono ?_
  rintro e u1 ⟨rfl, b⟩
  replace G := Lib.hid (G.out.trans (b.mono G.out.size))
  replace hs := Lib.hid (hs.out.below b)
  clear b
  go_wp2_with fail
  refine (spVlv_any _ _ _ _ _).mono ?_
  rintro e u2 ⟨rfl, b⟩
  replace G := Lib.hid (G.out.trans (b.mono G.out.size))
  replace hs := Lib.hid (hs.out.below b)
  clear b
  obtain ⟨k0, k1, k2, k3⟩ := hs.out.c4
  go_wp2_with fail
  refine (tolv_any _ _ _ _ _).mono ?_
  rintro e u3 ⟨rfl, b⟩
  replace G := Lib.hid (G.out.trans (b.mono G.out.size))
  clear b
  go_wp2_with fail
  refine (imVlv_any _ _ _ _ _).mono ?_
  rintro e u4 ⟨rfl, b⟩
  replace G := Lib.hid (G.out.trans (b.mono G.out.size))
  clear b
  go_wp2
  go_ret
  exact ⟨rfl, G.out⟩
end Go.Proofs.Ythohhiaeaefdcaa.fnExactValidLevel
