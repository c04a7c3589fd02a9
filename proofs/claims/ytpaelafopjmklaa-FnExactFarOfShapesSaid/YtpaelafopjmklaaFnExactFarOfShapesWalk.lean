import Derived.Test.YtpaelafopjmklaaFar
import Derived.Test.YtpaelafopjmklaaCEqf
namespace Go.Proofs.Ytpaelafopjmklaa.fnExactFarOfShapes
open Go.RowKit Ieee
set_option linter.unusedVariables false
set_option maxHeartbeats 2000000 in
set_option maxRecDepth 100000 in
theorem walk (a0 : Option Addr) (len0 cap0 : Nat) (z0 : List Nat) (a1 : Option Addr) (len1 cap1 : Nat) (z1 : List Nat) (w : World) (w0 : FRow w a0 len0 cap0 z0) (w1 : FRow w a1 len1 cap1 z1) :
    Calls Try.prog 3 #[.slice a0 len0 cap0, .slice a1 len1 cap1] w fun e w' => e = .returned (.bool true) ∧ Below w.heap.size w w' := by
  obtain ⟨hs0, hlc0, hcm0, hb0⟩ := w0
  unfold maxLen at hcm0
  have H0 := Lib.hid hs0
  clear hs0
  obtain ⟨hs1, hlc1, hcm1, hb1⟩ := w1
  unfold maxLen at hcm1
  have H1 := Lib.hid hs1
  clear hs1
  by_cases hm0 : len0 ≤ 1048576
  rotate_left
  · clear H0 H1
    go_enter Try.func3, Try.ntmps3
    go_wp2_with fail
    all_goals (go_ret; exact ⟨rfl, Below.refl _ _⟩)
  by_cases hm1 : len1 ≤ 1048576
  rotate_left
  · clear H0 H1
    go_enter Try.func3, Try.ntmps3
    go_wp2_with fail
    all_goals (go_ret; exact ⟨rfl, Below.refl _ _⟩)
  have G := Lib.hid (Below.refl w.heap.size w)
  go_enter Try.func3, Try.ntmps3
  go_wp2_with fail
  refine (toF_any _ _ _ _ _ (FSl.below H0.out G.out) hm0).mono ?_
  rintro e u1 ⟨rfl, f, b⟩
  replace G := Lib.hid (G.out.trans (b.mono G.out.size))
  have S0 := Lib.hid f
  clear f b
  go_wp2_with fail
  refine (toF_any _ _ _ _ _ (FSl.below H1.out G.out) hm1).mono ?_
  rintro e u2 ⟨rfl, f, b⟩
  replace S0 := Lib.hid (FSl.below S0.out b)
  replace G := Lib.hid (G.out.trans (b.mono G.out.size))
  have S1 := Lib.hid f
  clear f b
  go_wp2_with fail
  refine (spFar_any _ _ _ _ _ _ _ _ _ S0.out S1.out hm0 hm1).mono ?_
  rintro e u3 ⟨r1, hr, rfl, b⟩
  replace S0 := Lib.hid (FSl.below S0.out b)
  replace S1 := Lib.hid (FSl.below S1.out b)
  replace G := Lib.hid (G.out.trans (b.mono G.out.size))
  have R1 := Lib.hid hr
  clear hr
  clear b
  clear S0 S1
  go_wp2_with fail
  refine (toF_any _ _ _ _ _ (FSl.below H0.out G.out) hm0).mono ?_
  rintro e u4 ⟨rfl, f, b⟩
  replace G := Lib.hid (G.out.trans (b.mono G.out.size))
  have X0 := Lib.hid f
  clear f b
  go_wp2_with fail
  refine (toF_any _ _ _ _ _ (FSl.below H1.out G.out) hm1).mono ?_
  rintro e u5 ⟨rfl, f, b⟩
  replace X0 := Lib.hid (FSl.below X0.out b)
  replace G := Lib.hid (G.out.trans (b.mono G.out.size))
  have X1 := Lib.hid f
  clear f b
  go_wp2_with fail
  refine (imFar_any _ _ _ _ _ _ _ _ _ X0.out X1.out hm0 hm1).mono ?_
  rintro e u6 ⟨r2, hr, rfl, b⟩
  replace X0 := Lib.hid (FSl.below X0.out b)
  replace X1 := Lib.hid (FSl.below X1.out b)
  replace G := Lib.hid (G.out.trans (b.mono G.out.size))
  have R2 := Lib.hid hr
  clear hr
  clear b
  go_wp2_with fail
  refine (sameFloat_true _ _ _ (by rw [cn_wideR, cn_wideR, R1.out, R2.out])).mono ?_
  rintro e w' ⟨n, rfl, rfl⟩
  go_wp2_with fail
  refine (toF_any _ _ _ _ _ (FSl.below H0.out (below_drewN G.out _)) hm0).mono ?_
  rintro e u7 ⟨rfl, f, b⟩
  replace X0 := Lib.hid (FSl.below (FSl.drewN X0.out _) b)
  replace X1 := Lib.hid (FSl.below (FSl.drewN X1.out _) b)
  replace G := Lib.hid ((below_drewN G.out _).trans (b.mono G.out.size))
  have Y0 := Lib.hid f
  clear f b
  go_wp2_with fail
  refine (eqF_any _ _ _ _ _ _ _ _ X0.out Y0.out hm0 (fun _ _ => rfl)).mono ?_
  rintro e w' ⟨n7, rfl, rfl⟩
  clear Y0
  replace X0 := Lib.hid (FSl.drewN X0.out n7)
  replace X1 := Lib.hid (FSl.drewN X1.out n7)
  replace G := Lib.hid (below_drewN G.out n7)
  go_wp2_with fail
  refine (toF_any _ _ _ _ _ (FSl.below H1.out G.out) hm1).mono ?_
  rintro e u8 ⟨rfl, f, b⟩
  replace X0 := Lib.hid (FSl.below X0.out b)
  replace X1 := Lib.hid (FSl.below X1.out b)
  replace G := Lib.hid (G.out.trans (b.mono G.out.size))
  have Y1 := Lib.hid f
  clear f b
  go_wp2_with fail
  refine (eqF_any _ _ _ _ _ _ _ _ X1.out Y1.out hm1 (fun _ _ => rfl)).mono ?_
  rintro e w' ⟨n8, rfl, rfl⟩
  clear Y1
  replace X0 := Lib.hid (FSl.drewN X0.out n8)
  replace X1 := Lib.hid (FSl.drewN X1.out n8)
  replace G := Lib.hid (below_drewN G.out n8)
  go_wp2
  go_ret
  exact ⟨rfl, G.out⟩
end Go.Proofs.Ytpaelafopjmklaa.fnExactFarOfShapes
