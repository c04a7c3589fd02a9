import Derived.Test.YtopgegciejmhaaaOpz
import Derived.Test.YtopgegciejmhaaaCLaw
import Derived.Test.YtopgegciejmhaaaRow
namespace Go.Proofs.Ytopgegciejmhaaa.fnExactOwnPast
open Go.RowKit Ieee
set_option linter.unusedVariables false
set_option maxHeartbeats 4000000 in
set_option maxRecDepth 100000 in
theorem walk (a0 : Option Addr) (len0 cap0 : Nat) (z0 : List Nat) (a1 : Int) (w : World) (w0 : FRow w a0 len0 cap0 z0) (w1 : (Lit.int .i64 a1).wf = true) :
    Calls Try.prog 12 #[.slice a0 len0 cap0, .int .i64 a1] w fun e w' => e = .returned (.bool true) ∧ Below w.heap.size w w' := by
  clear w1
  obtain ⟨hs0, hlc0, hcm0, hb0⟩ := w0
  unfold maxLen at hcm0
  have H0 := Lib.hid hs0
  clear hs0
  by_cases hm0 : len0 ≤ 1048576
  rotate_left
  · clear H0
    go_enter Try.func12, Try.ntmps12
    go_wp2_with fail
    all_goals (go_ret; exact ⟨rfl, Below.refl _ _⟩)
  obtain ⟨x0, hx0⟩ : ∃ x : List Nat, oqR z0 a1 = x := ⟨_, rfl⟩
  have hX0 : x0.length ≤ 1048576 := by rw [← hx0]; exact oqR_len
  obtain ⟨y0, hy0⟩ : ∃ y : Nat, x0.length = y := ⟨_, rfl⟩
  rw [hy0] at hX0
  have HX0 := Lib.hid hx0
  have HY0 := Lib.hid hy0
  clear hx0 hy0
  have G := Lib.hid (Below.refl w.heap.size w)
  go_enter Try.func12, Try.ntmps12
  go_wp2_with fail
  refine (toFt_any _ _ _ _ _ (FSl.below H0.out G.out) hm0).mono ?_
  rintro e u1 ⟨rfl, t, b, q1⟩
  replace G := Lib.hid (G.out.trans (b.mono G.out.size))
  have S0 := Lib.hid t
  have hsS0 : w.heap.size < u1.heap.size := q1
  clear t b q1
  go_wp2_with fail
  refine (spOp_any _ _ _ _ _ _ S0.out.sl hm0).mono ?_
  intro e u2 hR
  obtain ⟨AR0, cR0, dR0, rR0, mR0, rfl, ⟨t0, hc0, q2_0⟩, hm_0, b⟩ := hR.res HX0.out HY0.out
  have MR0 := Lib.hid hm_0
  clear hm_0
  replace S0 := Lib.hid (S0.out.below b)
  replace G := Lib.hid (G.out.trans (b.mono G.out.size))
  have R0 := Lib.hid t0
  have CR0 := Lib.hid hc0
  have hdR0 : u1.heap.size ≤ dR0 := q2_0
  have hlR0 : 0 < y0 → dR0 < u2.heap.size := t0.lt_
  have hzR : u1.heap.size ≤ u2.heap.size := b.size
  clear hR b t0 hc0 q2_0
  clear S0
  go_wp2_with fail
  refine (toFt_any _ _ _ _ _ (FSl.below H0.out G.out) hm0).mono ?_
  rintro e u3 ⟨rfl, t, b, q3⟩
  replace R0 := Lib.hid (R0.out.below b)
  replace G := Lib.hid (G.out.trans (b.mono G.out.size))
  have X0 := Lib.hid t
  have hsX0 : u2.heap.size < u3.heap.size := q3
  clear t b q3
  go_wp2_with fail
  refine (imOp_any _ _ _ _ _ _ X0.out.sl hm0).mono ?_
  intro e u4 hR
  obtain ⟨AQ0, cQ0, dQ0, rQ0, mQ0, rfl, ⟨t0, hc0, q4_0⟩, hm_0, b⟩ := hR.res HX0.out HY0.out
  have MQ0 := Lib.hid hm_0
  clear hm_0
  replace R0 := Lib.hid (R0.out.below b)
  replace X0 := Lib.hid (X0.out.below b)
  replace G := Lib.hid (G.out.trans (b.mono G.out.size))
  have Q0 := Lib.hid t0
  have CQ0 := Lib.hid hc0
  have hdQ0 : u3.heap.size ≤ dQ0 := q4_0
  have hlQ0 : 0 < y0 → dQ0 < u4.heap.size := t0.lt_
  have hzQ : u3.heap.size ≤ u4.heap.size := b.size
  clear hR b t0 hc0 q4_0
  go_wp2_with fail
  refine (eqF_any _ _ _ _ _ _ _ _ Q0.out.sl R0.out.sl hX0 (same_cny HY0.out CQ0.out CR0.out)).mono ?_
  rintro e w' ⟨n5, rfl, rfl⟩
  go_wp2_with fail
  refine (sameFloat_true _ _ _ (by rw [cn_wideR, cn_wideR, MQ0.out, MR0.out])).mono ?_
  rintro e w' ⟨n6, rfl, rfl⟩
  go_wp2_with fail
  refine (toFt_any _ _ _ _ _ (FSl.below H0.out (below_drewN G.out _)) hm0).mono ?_
  rintro e u7 ⟨rfl, t, b, q7⟩
  replace R0 := Lib.hid ((R0.out.drewN _).below b)
  replace X0 := Lib.hid ((X0.out.drewN _).below b)
  replace Q0 := Lib.hid ((Q0.out.drewN _).below b)
  replace G := Lib.hid ((below_drewN G.out _).trans (b.mono G.out.size))
  have Y0 := Lib.hid t
  have hsY0 : u4.heap.size < u7.heap.size := q7
  clear t b q7
  go_wp2_with fail
  refine (eqF_any _ _ _ _ _ _ _ _ X0.out.sl Y0.out.sl hm0 (fun _ _ => rfl)).mono ?_
  rintro e w' ⟨n8, rfl, rfl⟩
  clear Y0
  go_wp2_with fail
  refine (markt_any 1 (X0.out.drewN _) hm0 (by omega)).mono ?_
  rintro e u9 ⟨rfl, o, m⟩
  replace R0 := Lib.hid ((R0.out.drewN _).only o (fun h0 => by (try have := hlR0 h0); (try have := hlQ0 h0); omega))
  replace Q0 := Lib.hid ((Q0.out.drewN _).only o (fun h0 => by (try have := hlR0 h0); (try have := hlQ0 h0); omega))
  replace G := Lib.hid ((below_drewN G.out _).trans (o.below (by have := G.out.size; omega)))
  replace X0 := Lib.hid m
  have hb9 : u9.heap.size = u7.heap.size := o.size
  have he9 : u7.heap.size ≤ u9.heap.size := Nat.le_of_eq hb9.symm
  clear o m hb9
  go_wp2_with fail
  refine (eqF_any _ _ _ _ _ _ _ _ Q0.out.sl R0.out.sl hX0 (same_cny HY0.out CQ0.out CR0.out)).mono ?_
  rintro e w' ⟨n10, rfl, rfl⟩
  go_wp2_with fail
  refine (sameFloat_true _ _ _ (by rw [cn_wideR, cn_wideR, MQ0.out, MR0.out])).mono ?_
  rintro e w' ⟨n11, rfl, rfl⟩
  go_wp2_with fail
  refine (markt_any 1 (Q0.out.drewN _) hX0 (by omega)).mono ?_
  rintro e u12 ⟨rfl, o, m⟩
  replace R0 := Lib.hid ((R0.out.drewN _).only o (fun h0 => by (try have := hlR0 h0); (try have := hlQ0 h0); omega))
  replace X0 := Lib.hid ((X0.out.drewN _).only o (fun h0 => by (try have := hlR0 h0); (try have := hlQ0 h0); omega))
  replace G := Lib.hid ((below_drewN G.out _).trans (o.below (by have := G.out.size; omega)))
  replace Q0 := Lib.hid m
  have hb12 : u12.heap.size = u9.heap.size := o.size
  have he12 : u9.heap.size ≤ u12.heap.size := Nat.le_of_eq hb12.symm
  clear o m hb12
  go_wp2_with fail
  refine (heldt_any 1 Q0.out hX0 (by omega)).mono ?_
  rintro e w' ⟨rfl, rfl⟩
  go_wp2_with fail
  refine (toFt_any _ _ _ _ _ (FSl.below H0.out G.out) hm0).mono ?_
  rintro e u13 ⟨rfl, t, b, q13⟩
  replace R0 := Lib.hid (R0.out.below b)
  replace X0 := Lib.hid (X0.out.below b)
  replace Q0 := Lib.hid (Q0.out.below b)
  replace G := Lib.hid (G.out.trans (b.mono G.out.size))
  have V0 := Lib.hid t
  have hsV0 : u12.heap.size < u13.heap.size := q13
  clear t b q13
  go_wp2_with fail
  refine (imOp_any _ _ _ _ _ _ V0.out.sl hm0).mono ?_
  intro e u14 hR
  obtain ⟨AP0, cP0, dP0, rP0, mP0, rfl, ⟨t0, hc0, q14_0⟩, hm_0, b⟩ := hR.res HX0.out HY0.out
  have MP0 := Lib.hid hm_0
  clear hm_0
  replace R0 := Lib.hid (R0.out.below b)
  replace X0 := Lib.hid (X0.out.below b)
  replace Q0 := Lib.hid (Q0.out.below b)
  replace V0 := Lib.hid (V0.out.below b)
  replace G := Lib.hid (G.out.trans (b.mono G.out.size))
  have P0 := Lib.hid t0
  have CP0 := Lib.hid hc0
  have hdP0 : u13.heap.size ≤ dP0 := q14_0
  have hlP0 : 0 < y0 → dP0 < u14.heap.size := t0.lt_
  have hzP : u13.heap.size ≤ u14.heap.size := b.size
  clear hR b t0 hc0 q14_0
  go_wp2_with fail
  refine (eqF_any _ _ _ _ _ _ _ _ P0.out.sl R0.out.sl hX0 (same_cny HY0.out CP0.out CR0.out)).mono ?_
  rintro e w' ⟨n15, rfl, rfl⟩
  go_wp2_with fail
  refine (sameFloat_true _ _ _ (by rw [cn_wideR, cn_wideR, MP0.out, MR0.out])).mono ?_
  rintro e w' ⟨n16, rfl, rfl⟩
  go_wp2_with fail
  refine (heldt_any 1 (Q0.out.drewN _) hX0 (by omega)).mono ?_
  rintro e w' ⟨rfl, rfl⟩
  go_wp2
  go_ret
  exact ⟨rfl, (below_drewN G.out _)⟩
end Go.Proofs.Ytopgegciejmhaaa.fnExactOwnPast
