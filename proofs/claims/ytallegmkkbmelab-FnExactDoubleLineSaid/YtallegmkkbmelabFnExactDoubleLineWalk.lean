import Derived.Test.YtallegmkkbmelabDbl
import Derived.Test.YtallegmkkbmelabCEqf
namespace Go.Proofs.Ytallegmkkbmelab.fnExactDoubleLine
open Go.RowKit Ieee
set_option linter.unusedVariables false
set_option maxHeartbeats 2000000 in
set_option maxRecDepth 100000 in
theorem walk (a0 : Option Addr) (len0 cap0 : Nat) (z0 : List Nat) (a1 : Nat) (w : World) (w0 : FRow w a0 len0 cap0 z0) (w1 : (Lit.float .f32 a1).wf = true) :
    Calls Try.prog 5 #[.slice a0 len0 cap0, .float .f32 a1] w fun e w' => e = .returned (.bool true) ∧ Below w.heap.size w w' := by
  clear w1
  obtain ⟨hs0, hlc0, hcm0, _⟩ := w0
  unfold maxLen at hcm0
  have H0 := Lib.hid hs0
  clear hs0
  by_cases hm0 : len0 ≤ 1048576
  rotate_left
  · clear H0
    go_enter Try.func5, Try.ntmps5
    go_wp2_with fail
    all_goals (go_ret; exact ⟨rfl, Below.refl _ _⟩)
  have G := Lib.hid (Below.refl w.heap.size w)
  go_enter Try.func5, Try.ntmps5
  go_wp2_with fail
  refine (toF_any _ _ _ _ _ (FSl.below H0.out G.out) hm0).mono ?_
  rintro e u1 ⟨rfl, f, b⟩
  replace G := Lib.hid (G.out.trans (b.mono G.out.size))
  have S0 := Lib.hid f
  clear f b
  go_wp2_with fail
  refine (specDl_any _ _ _ _ _ _ S0.out hm0).mono ?_
  rintro e u2 ⟨r1, s1, hr, hs, rfl, b⟩
  replace S0 := Lib.hid (FSl.below S0.out b)
  replace G := Lib.hid (G.out.trans (b.mono G.out.size))
  have R1 := Lib.hid hr
  clear hr
  have T1 := Lib.hid hs
  clear hs
  clear b
  clear S0
  go_wp2_with fail
  refine (toF_any _ _ _ _ _ (FSl.below H0.out G.out) hm0).mono ?_
  rintro e u3 ⟨rfl, f, b⟩
  replace G := Lib.hid (G.out.trans (b.mono G.out.size))
  have X0 := Lib.hid f
  clear f b
  go_wp2_with fail
  refine (implDl_any _ _ _ _ _ _ X0.out hm0).mono ?_
  rintro e u4 ⟨r2, s2, hr, hs, rfl, b⟩
  replace X0 := Lib.hid (FSl.below X0.out b)
  replace G := Lib.hid (G.out.trans (b.mono G.out.size))
  have R2 := Lib.hid hr
  clear hr
  have T2 := Lib.hid hs
  clear hs
  clear b
  go_wp2_with fail
  refine (sameFloat_true _ _ _ (by rw [cn_wideR, cn_wideR, R1.out, R2.out])).mono ?_
  rintro e w' ⟨n5, rfl, rfl⟩
  go_wp2_with fail
  refine (sameFloat_true _ _ _ (by rw [cn_wideR, cn_wideR, T1.out, T2.out])).mono ?_
  rintro e w' ⟨n6, rfl, rfl⟩
  go_wp2_with fail
  refine (toF_any _ _ _ _ _ (FSl.below H0.out (below_drewN G.out _)) hm0).mono ?_
  rintro e u7 ⟨rfl, f, b⟩
  replace X0 := Lib.hid (FSl.below (FSl.drewN X0.out _) b)
  replace G := Lib.hid ((below_drewN G.out _).trans (b.mono G.out.size))
  have Y0 := Lib.hid f
  clear f b
  go_wp2_with fail
  refine (eqF_any _ _ _ _ _ _ _ _ X0.out Y0.out hm0 (fun _ _ => rfl)).mono ?_
  rintro e w' ⟨n7, rfl, rfl⟩
  clear Y0
  replace X0 := Lib.hid (FSl.drewN X0.out n7)
  replace G := Lib.hid (below_drewN G.out n7)
  go_wp2
  go_ret
  exact ⟨rfl, G.out⟩
end Go.Proofs.Ytallegmkkbmelab.fnExactDoubleLine
