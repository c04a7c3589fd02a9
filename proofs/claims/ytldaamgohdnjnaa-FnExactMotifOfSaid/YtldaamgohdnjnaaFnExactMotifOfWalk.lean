import Derived.Test.YtldaamgohdnjnaaMot
import Derived.Test.YtldaamgohdnjnaaCEqf
namespace Go.Proofs.Ytldaamgohdnjnaa.fnExactMotifOf
open Go.RowKit Ieee
set_option linter.unusedVariables false
set_option maxHeartbeats 4000000 in
set_option maxRecDepth 100000 in
theorem walk (a0 : Option Addr) (len0 cap0 : Nat) (z0 : List Nat) (a1 : Int) (w : World) (w0 : FRow w a0 len0 cap0 z0) (w1 : (Lit.int .i64 a1).wf = true) :
    Calls Try.prog 10 #[.slice a0 len0 cap0, .int .i64 a1] w fun e w' => e = .returned (.bool true) ∧ Below w.heap.size w w' := by
  clear w1
  obtain ⟨hs0, hlc0, hcm0, hb0⟩ := w0
  unfold maxLen at hcm0
  have H0 := Lib.hid hs0
  clear hs0
  by_cases hm0 : len0 ≤ 1048576
  rotate_left
  · clear H0
    go_enter Try.func10, Try.ntmps10
    go_wp2_with fail
    all_goals (go_ret; exact ⟨rfl, Below.refl _ _⟩)
  have G := Lib.hid (Below.refl w.heap.size w)
  go_enter Try.func10, Try.ntmps10
  go_wp2_with fail
  refine (toF_any _ _ _ _ _ (FSl.below H0.out G.out) hm0).mono ?_
  rintro e u1 ⟨rfl, t, b⟩
  replace G := Lib.hid (G.out.trans (b.mono G.out.size))
  have S0 := Lib.hid t
  clear t b
  go_wp2_with fail
  refine (spMotif_any _ _ _ _ _ _ S0.out hm0 (Nat.le_refl _) hm0).mono ?_
  rintro e u2 ⟨mR0, hm_0, rfl, b⟩
  have MR0 := Lib.hid hm_0
  clear hm_0
  replace S0 := Lib.hid (FSl.below S0.out b)
  replace G := Lib.hid (G.out.trans (b.mono G.out.size))
  have hzR : u1.heap.size ≤ u2.heap.size := b.size
  clear b
  clear S0
  go_wp2_with fail
  refine (toF_any _ _ _ _ _ (FSl.below H0.out G.out) hm0).mono ?_
  rintro e u3 ⟨rfl, t, b⟩
  replace G := Lib.hid (G.out.trans (b.mono G.out.size))
  have X0 := Lib.hid t
  clear t b
  go_wp2_with fail
  refine (imMotif_any _ _ _ _ _ _ X0.out hm0 (Nat.le_refl _) hm0).mono ?_
  rintro e u4 ⟨mQ0, hm_0, rfl, b⟩
  have MQ0 := Lib.hid hm_0
  clear hm_0
  replace X0 := Lib.hid (FSl.below X0.out b)
  replace G := Lib.hid (G.out.trans (b.mono G.out.size))
  have hzQ : u3.heap.size ≤ u4.heap.size := b.size
  clear b
  go_wp2_with fail
  refine (sameFloat_true _ _ _ (by rw [cn_wideR, cn_wideR, MQ0.out, MR0.out])).mono ?_
  rintro e w' ⟨n5, rfl, rfl⟩
  go_wp2_with fail
  refine (toF_any _ _ _ _ _ (FSl.below H0.out (below_drewN G.out _)) hm0).mono ?_
  rintro e u6 ⟨rfl, t, b⟩
  replace X0 := Lib.hid (FSl.below (FSl.drewN X0.out _) b)
  replace G := Lib.hid ((below_drewN G.out _).trans (b.mono G.out.size))
  have Y0 := Lib.hid t
  clear t b
  go_wp2_with fail
  refine (eqF_any _ _ _ _ _ _ _ _ X0.out Y0.out hm0 (fun _ _ => rfl)).mono ?_
  rintro e w' ⟨n7, rfl, rfl⟩
  clear Y0
  go_wp2
  go_ret
  exact ⟨rfl, (below_drewN G.out _)⟩
end Go.Proofs.Ytldaamgohdnjnaa.fnExactMotifOf
