import Derived.Test.YtpaelafopjmklaaSfr
import Derived.Test.YtpaelafopjmklaaCEqf
import Derived.Test.YtpaelafopjmklaaIlw
namespace Go.Proofs.Ytpaelafopjmklaa.fnExactSignFar
open Go.RowKit Ieee
set_option linter.unusedVariables false
set_option maxHeartbeats 4000000 in
set_option maxRecDepth 100000 in
theorem walk (a0 : Option Addr) (len0 cap0 : Nat) (z0 : List Int) (a1 : Option Addr) (len1 cap1 : Nat) (z1 : List Int) (a2 : Option Addr) (len2 cap2 : Nat) (z2 : List Nat) (w : World) (w0 : IRow w a0 len0 cap0 z0) (w1 : IRow w a1 len1 cap1 z1) (w2 : FRow w a2 len2 cap2 z2) :
    Calls Try.prog 11 #[.slice a0 len0 cap0, .slice a1 len1 cap1, .slice a2 len2 cap2] w fun e w' => e = .returned (.bool true) ∧ Below w.heap.size w w' := by
  obtain ⟨hs0, hlc0, hcm0, hb0⟩ := w0
  unfold maxLen at hcm0
  have H0 := Lib.hid hs0
  clear hs0
  obtain ⟨hs1, hlc1, hcm1, hb1⟩ := w1
  unfold maxLen at hcm1
  have H1 := Lib.hid hs1
  clear hs1
  obtain ⟨hs2, hlc2, hcm2, hb2⟩ := w2
  unfold maxLen at hcm2
  have H2 := Lib.hid hs2
  clear hs2
  by_cases hm0 : len0 ≤ 1048576
  rotate_left
  · clear H0 H1 H2
    go_enter Try.func11, Try.ntmps11
    go_wp2_with fail
    all_goals (go_ret; exact ⟨rfl, Below.refl _ _⟩)
  by_cases hm1 : len1 ≤ 1048576
  rotate_left
  · clear H0 H1 H2
    go_enter Try.func11, Try.ntmps11
    go_wp2_with fail
    all_goals (go_ret; exact ⟨rfl, Below.refl _ _⟩)
  by_cases hm2 : len2 ≤ 1048576
  rotate_left
  · clear H0 H1 H2
    go_enter Try.func11, Try.ntmps11
    go_wp2_with fail
    all_goals (go_ret; exact ⟨rfl, Below.refl _ _⟩)
  have G := Lib.hid (Below.refl w.heap.size w)
  go_enter Try.func11, Try.ntmps11
  go_wp2_with fail
  refine (toI_any _ _ _ _ _ (ISl.below H0.out G.out) hm0).mono ?_
  rintro e u1 ⟨rfl, t, b⟩
  replace G := Lib.hid (G.out.trans (b.mono G.out.size))
  have S0 := Lib.hid t
  clear t b
  go_wp2_with fail
  refine (toI_any _ _ _ _ _ (ISl.below H1.out G.out) hm1).mono ?_
  rintro e u2 ⟨rfl, t, b⟩
  replace S0 := Lib.hid (ISl.below S0.out b)
  replace G := Lib.hid (G.out.trans (b.mono G.out.size))
  have S1 := Lib.hid t
  clear t b
  go_wp2_with fail
  refine (toF_any _ _ _ _ _ (FSl.below H2.out G.out) hm2).mono ?_
  rintro e u3 ⟨rfl, t, b⟩
  replace S0 := Lib.hid (ISl.below S0.out b)
  replace S1 := Lib.hid (ISl.below S1.out b)
  replace G := Lib.hid (G.out.trans (b.mono G.out.size))
  have S2 := Lib.hid t
  clear t b
  go_wp2_with fail
  refine (spSfr_any _ _ _ _ _ _ _ _ _ _ _ _ _ S0.out S1.out S2.out hm0 hm1 hm2).mono ?_
  rintro e u4 ⟨mR0, hm_0, rfl, b⟩
  have MR0 := Lib.hid hm_0
  clear hm_0
  replace S0 := Lib.hid (ISl.below S0.out b)
  replace S1 := Lib.hid (ISl.below S1.out b)
  replace S2 := Lib.hid (FSl.below S2.out b)
  replace G := Lib.hid (G.out.trans (b.mono G.out.size))
  have hzR : u3.heap.size ≤ u4.heap.size := b.size
  clear b
  clear S0 S1 S2
  go_wp2_with fail
  refine (toI_any _ _ _ _ _ (ISl.below H0.out G.out) hm0).mono ?_
  rintro e u5 ⟨rfl, t, b⟩
  replace G := Lib.hid (G.out.trans (b.mono G.out.size))
  have X0 := Lib.hid t
  clear t b
  go_wp2_with fail
  refine (toI_any _ _ _ _ _ (ISl.below H1.out G.out) hm1).mono ?_
  rintro e u6 ⟨rfl, t, b⟩
  replace X0 := Lib.hid (ISl.below X0.out b)
  replace G := Lib.hid (G.out.trans (b.mono G.out.size))
  have X1 := Lib.hid t
  clear t b
  go_wp2_with fail
  refine (toF_any _ _ _ _ _ (FSl.below H2.out G.out) hm2).mono ?_
  rintro e u7 ⟨rfl, t, b⟩
  replace X0 := Lib.hid (ISl.below X0.out b)
  replace X1 := Lib.hid (ISl.below X1.out b)
  replace G := Lib.hid (G.out.trans (b.mono G.out.size))
  have X2 := Lib.hid t
  clear t b
  go_wp2_with fail
  refine (imSfr_any _ _ _ _ _ _ _ _ _ _ _ _ _ X0.out X1.out X2.out hm0 hm1 hm2).mono ?_
  rintro e u8 ⟨mQ0, hm_0, rfl, b⟩
  have MQ0 := Lib.hid hm_0
  clear hm_0
  replace X0 := Lib.hid (ISl.below X0.out b)
  replace X1 := Lib.hid (ISl.below X1.out b)
  replace X2 := Lib.hid (FSl.below X2.out b)
  replace G := Lib.hid (G.out.trans (b.mono G.out.size))
  have hzQ : u7.heap.size ≤ u8.heap.size := b.size
  clear b
  go_wp2_with fail
  refine (sameFloat_true _ _ _ (by rw [cn_wideR, cn_wideR, MQ0.out, MR0.out])).mono ?_
  rintro e w' ⟨n9, rfl, rfl⟩
  go_wp2_with fail
  refine (toI_any _ _ _ _ _ (ISl.below H0.out (below_drewN G.out _)) hm0).mono ?_
  rintro e u10 ⟨rfl, t, b⟩
  replace X0 := Lib.hid (ISl.below (ISl.drewN X0.out _) b)
  replace X1 := Lib.hid (ISl.below (ISl.drewN X1.out _) b)
  replace X2 := Lib.hid (FSl.below (FSl.drewN X2.out _) b)
  replace G := Lib.hid ((below_drewN G.out _).trans (b.mono G.out.size))
  have Y0 := Lib.hid t
  clear t b
  go_wp2_with fail
  refine (eqI_any _ _ _ _ _ _ _ X0.out Y0.out hm0).mono ?_
  rintro e w' ⟨n11, rfl, rfl⟩
  clear Y0
  go_wp2_with fail
  refine (toI_any _ _ _ _ _ (ISl.below H1.out (below_drewN G.out _)) hm1).mono ?_
  rintro e u12 ⟨rfl, t, b⟩
  replace X0 := Lib.hid (ISl.below (ISl.drewN X0.out _) b)
  replace X1 := Lib.hid (ISl.below (ISl.drewN X1.out _) b)
  replace X2 := Lib.hid (FSl.below (FSl.drewN X2.out _) b)
  replace G := Lib.hid ((below_drewN G.out _).trans (b.mono G.out.size))
  have Y1 := Lib.hid t
  clear t b
  go_wp2_with fail
  refine (eqI_any _ _ _ _ _ _ _ X1.out Y1.out hm1).mono ?_
  rintro e w' ⟨n13, rfl, rfl⟩
  clear Y1
  go_wp2_with fail
  refine (toF_any _ _ _ _ _ (FSl.below H2.out (below_drewN G.out _)) hm2).mono ?_
  rintro e u14 ⟨rfl, t, b⟩
  replace X0 := Lib.hid (ISl.below (ISl.drewN X0.out _) b)
  replace X1 := Lib.hid (ISl.below (ISl.drewN X1.out _) b)
  replace X2 := Lib.hid (FSl.below (FSl.drewN X2.out _) b)
  replace G := Lib.hid ((below_drewN G.out _).trans (b.mono G.out.size))
  have Y2 := Lib.hid t
  clear t b
  go_wp2_with fail
  refine (eqF_any _ _ _ _ _ _ _ _ X2.out Y2.out hm2 (fun _ _ => rfl)).mono ?_
  rintro e w' ⟨n15, rfl, rfl⟩
  clear Y2
  go_wp2
  go_ret
  exact ⟨rfl, (below_drewN G.out _)⟩
end Go.Proofs.Ytpaelafopjmklaa.fnExactSignFar
