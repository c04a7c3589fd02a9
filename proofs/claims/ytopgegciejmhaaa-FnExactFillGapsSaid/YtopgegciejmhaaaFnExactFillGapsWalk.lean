import Derived.Test.YtopgegciejmhaaaFgz
import Derived.Test.YtopgegciejmhaaaCLaw
import Derived.Test.YtopgegciejmhaaaRow
import Derived.Test.YtopgegciejmhaaaBsl
namespace Go.Proofs.Ytopgegciejmhaaa.fnExactFillGaps
open Go.RowKit Ieee
set_option linter.unusedVariables false
set_option maxHeartbeats 4000000 in
set_option maxRecDepth 100000 in
theorem walk (a0 : Option Addr) (len0 cap0 : Nat) (z0 : List Nat) (a1 : Option Addr) (len1 cap1 : Nat) (z1 : List Bool) (w : World) (w0 : FRow w a0 len0 cap0 z0) (w1 : BRow w a1 len1 cap1 z1) :
    Calls Try.prog 3 #[.slice a0 len0 cap0, .slice a1 len1 cap1] w fun e w' => e = .returned (.bool true) ∧ Below w.heap.size w w' := by
  obtain ⟨hs0, hlc0, hcm0, hb0⟩ := w0
  unfold maxLen at hcm0
  have H0 := Lib.hid hs0
  clear hs0
  obtain ⟨hs1, hlc1, hcm1⟩ := w1
  unfold maxLen at hcm1
  have H1 := Lib.hid hs1
  clear hs1
  by_cases hm0 : len0 ≤ 1048576
  rotate_left
  · clear H0 H1
    go_enter Try.func3, Try.ntmps3
    go_wp2_with fail
    all_goals (go_ret; exact ⟨rfl, Below.refl _ _⟩)
  by_cases hm1 : len1 ≤ 1048576
  rotate_left
  · clear H0 H1
    go_enter Try.func3, Try.ntmps3
    go_wp2_with fail
    all_goals (go_ret; exact ⟨rfl, Below.refl _ _⟩)
  obtain ⟨x0, hx0⟩ : ∃ x : List Nat, fgX z0 z1 = x := ⟨_, rfl⟩
  have hX0 : x0.length ≤ 1048576 := by rw [← hx0]; exact fgX_len
  obtain ⟨y0, hy0⟩ : ∃ y : Nat, x0.length = y := ⟨_, rfl⟩
  rw [hy0] at hX0
  have HX0 := Lib.hid hx0
  have HY0 := Lib.hid hy0
  clear hx0 hy0
  have G := Lib.hid (Below.refl w.heap.size w)
  go_enter Try.func3, Try.ntmps3
  go_wp2_with fail
  refine (toFt_any _ _ _ _ _ (FSl.below H0.out G.out) hm0).mono ?_
  rintro e u1 ⟨rfl, t, b, q1⟩
  replace G := Lib.hid (G.out.trans (b.mono G.out.size))
  have S0 := Lib.hid t
  have hsS0 : w.heap.size < u1.heap.size := q1
  clear t b q1
  go_wp2_with fail
  refine (toBt_any _ _ _ _ _ (BSl.below H1.out G.out) hm1).mono ?_
  rintro e u2 ⟨rfl, t, b, q2⟩
  replace S0 := Lib.hid (S0.out.below b)
  replace G := Lib.hid (G.out.trans (b.mono G.out.size))
  have S1 := Lib.hid t
  have hsS1 : u1.heap.size < u2.heap.size := q2
  clear t b q2
  go_wp2_with fail
  refine (spFg_any _ _ _ _ _ _ _ _ _ S0.out.sl S1.out.sl hm0 hm1).mono ?_
  intro e u3 hR
  obtain ⟨AR0, cR0, dR0, rR0, rfl, ⟨t0, hc0, q3_0⟩, b⟩ := hR.resn HX0.out HY0.out
  replace S0 := Lib.hid (S0.out.below b)
  replace S1 := Lib.hid (S1.out.below b)
  replace G := Lib.hid (G.out.trans (b.mono G.out.size))
  have R0 := Lib.hid t0
  have CR0 := Lib.hid hc0
  have hdR0 : u2.heap.size ≤ dR0 := q3_0
  have hlR0 : 0 < y0 → dR0 < u3.heap.size := t0.lt_
  have hzR : u2.heap.size ≤ u3.heap.size := b.size
  clear hR b t0 hc0 q3_0
  clear S0 S1
  go_wp2_with fail
  refine (toFt_any _ _ _ _ _ (FSl.below H0.out G.out) hm0).mono ?_
  rintro e u4 ⟨rfl, t, b, q4⟩
  replace R0 := Lib.hid (R0.out.below b)
  replace G := Lib.hid (G.out.trans (b.mono G.out.size))
  have X0 := Lib.hid t
  have hsX0 : u3.heap.size < u4.heap.size := q4
  clear t b q4
  go_wp2_with fail
  refine (toBt_any _ _ _ _ _ (BSl.below H1.out G.out) hm1).mono ?_
  rintro e u5 ⟨rfl, t, b, q5⟩
  replace R0 := Lib.hid (R0.out.below b)
  replace X0 := Lib.hid (X0.out.below b)
  replace G := Lib.hid (G.out.trans (b.mono G.out.size))
  have X1 := Lib.hid t
  have hsX1 : u4.heap.size < u5.heap.size := q5
  clear t b q5
  go_wp2_with fail
  refine (imFg_any _ _ _ _ _ _ _ _ _ X0.out.sl X1.out.sl hm0 hm1).mono ?_
  intro e u6 hR
  obtain ⟨AQ0, cQ0, dQ0, rQ0, rfl, ⟨t0, hc0, q6_0⟩, b⟩ := hR.resn HX0.out HY0.out
  replace R0 := Lib.hid (R0.out.below b)
  replace X0 := Lib.hid (X0.out.below b)
  replace X1 := Lib.hid (X1.out.below b)
  replace G := Lib.hid (G.out.trans (b.mono G.out.size))
  have Q0 := Lib.hid t0
  have CQ0 := Lib.hid hc0
  have hdQ0 : u5.heap.size ≤ dQ0 := q6_0
  have hlQ0 : 0 < y0 → dQ0 < u6.heap.size := t0.lt_
  have hzQ : u5.heap.size ≤ u6.heap.size := b.size
  clear hR b t0 hc0 q6_0
  go_wp2_with fail
  refine (eqF_any _ _ _ _ _ _ _ _ Q0.out.sl R0.out.sl hX0 (same_cny HY0.out CQ0.out CR0.out)).mono ?_
  rintro e w' ⟨n7, rfl, rfl⟩
  go_wp2_with fail
  refine (toFt_any _ _ _ _ _ (FSl.below H0.out (below_drewN G.out _)) hm0).mono ?_
  rintro e u8 ⟨rfl, t, b, q8⟩
  replace R0 := Lib.hid ((R0.out.drewN _).below b)
  replace X0 := Lib.hid ((X0.out.drewN _).below b)
  replace X1 := Lib.hid ((X1.out.drewN _).below b)
  replace Q0 := Lib.hid ((Q0.out.drewN _).below b)
  replace G := Lib.hid ((below_drewN G.out _).trans (b.mono G.out.size))
  have Y0 := Lib.hid t
  have hsY0 : u6.heap.size < u8.heap.size := q8
  clear t b q8
  go_wp2_with fail
  refine (eqF_any _ _ _ _ _ _ _ _ X0.out.sl Y0.out.sl hm0 (fun _ _ => rfl)).mono ?_
  rintro e w' ⟨n9, rfl, rfl⟩
  clear Y0
  go_wp2_with fail
  refine (toBt_any _ _ _ _ _ (BSl.below H1.out (below_drewN G.out _)) hm1).mono ?_
  rintro e u10 ⟨rfl, t, b, q10⟩
  replace R0 := Lib.hid ((R0.out.drewN _).below b)
  replace X0 := Lib.hid ((X0.out.drewN _).below b)
  replace X1 := Lib.hid ((X1.out.drewN _).below b)
  replace Q0 := Lib.hid ((Q0.out.drewN _).below b)
  replace G := Lib.hid ((below_drewN G.out _).trans (b.mono G.out.size))
  have Y1 := Lib.hid t
  have hsY1 : u8.heap.size < u10.heap.size := q10
  clear t b q10
  go_wp2_with fail
  refine (eqB_any _ _ _ _ _ _ _ X1.out.sl Y1.out.sl hm1).mono ?_
  rintro e w' ⟨n11, rfl, rfl⟩
  clear Y1
  go_wp2_with fail
  refine (markt_any 1 (X0.out.drewN _) hm0 (by omega)).mono ?_
  rintro e u12 ⟨rfl, o, m⟩
  replace R0 := Lib.hid ((R0.out.drewN _).only o (fun h0 => by (try have := hlR0 h0); (try have := hlQ0 h0); omega))
  replace X1 := Lib.hid ((X1.out.drewN _).only o (fun h0 => by (try have := hlR0 h0); (try have := hlQ0 h0); omega))
  replace Q0 := Lib.hid ((Q0.out.drewN _).only o (fun h0 => by (try have := hlR0 h0); (try have := hlQ0 h0); omega))
  replace G := Lib.hid ((below_drewN G.out _).trans (o.below (by have := G.out.size; omega)))
  replace X0 := Lib.hid m
  have hb12 : u12.heap.size = u10.heap.size := o.size
  have he12 : u10.heap.size ≤ u12.heap.size := Nat.le_of_eq hb12.symm
  clear o m hb12
  go_wp2_with fail
  refine (bmarkt_any (1 + len0) X1.out hm1 (by omega)).mono ?_
  rintro e u13 ⟨rfl, o⟩
  replace R0 := Lib.hid (R0.out.only o (fun h0 => by (try have := hlR0 h0); (try have := hlQ0 h0); omega))
  replace X0 := Lib.hid (X0.out.only o (fun h0 => by (try have := hlR0 h0); (try have := hlQ0 h0); omega))
  replace Q0 := Lib.hid (Q0.out.only o (fun h0 => by (try have := hlR0 h0); (try have := hlQ0 h0); omega))
  replace G := Lib.hid (G.out.trans (o.below (by have := G.out.size; omega)))
  clear X1
  have hb13 : u13.heap.size = u12.heap.size := o.size
  have he13 : u12.heap.size ≤ u13.heap.size := Nat.le_of_eq hb13.symm
  clear o hb13
  go_wp2_with fail
  refine (eqF_any _ _ _ _ _ _ _ _ Q0.out.sl R0.out.sl hX0 (same_cny HY0.out CQ0.out CR0.out)).mono ?_
  rintro e w' ⟨n14, rfl, rfl⟩
  go_wp2_with fail
  refine (markt_any 1 (Q0.out.drewN _) hX0 (by omega)).mono ?_
  rintro e u15 ⟨rfl, o, m⟩
  replace R0 := Lib.hid ((R0.out.drewN _).only o (fun h0 => by (try have := hlR0 h0); (try have := hlQ0 h0); omega))
  replace X0 := Lib.hid ((X0.out.drewN _).only o (fun h0 => by (try have := hlR0 h0); (try have := hlQ0 h0); omega))
  replace G := Lib.hid ((below_drewN G.out _).trans (o.below (by have := G.out.size; omega)))
  replace Q0 := Lib.hid m
  have hb15 : u15.heap.size = u13.heap.size := o.size
  have he15 : u13.heap.size ≤ u15.heap.size := Nat.le_of_eq hb15.symm
  clear o m hb15
  go_wp2_with fail
  refine (heldt_any 1 Q0.out hX0 (by omega)).mono ?_
  rintro e w' ⟨rfl, rfl⟩
  go_wp2_with fail
  refine (toFt_any _ _ _ _ _ (FSl.below H0.out G.out) hm0).mono ?_
  rintro e u16 ⟨rfl, t, b, q16⟩
  replace R0 := Lib.hid (R0.out.below b)
  replace X0 := Lib.hid (X0.out.below b)
  replace Q0 := Lib.hid (Q0.out.below b)
  replace G := Lib.hid (G.out.trans (b.mono G.out.size))
  have V0 := Lib.hid t
  have hsV0 : u15.heap.size < u16.heap.size := q16
  clear t b q16
  go_wp2_with fail
  refine (toBt_any _ _ _ _ _ (BSl.below H1.out G.out) hm1).mono ?_
  rintro e u17 ⟨rfl, t, b, q17⟩
  replace R0 := Lib.hid (R0.out.below b)
  replace X0 := Lib.hid (X0.out.below b)
  replace Q0 := Lib.hid (Q0.out.below b)
  replace V0 := Lib.hid (V0.out.below b)
  replace G := Lib.hid (G.out.trans (b.mono G.out.size))
  have V1 := Lib.hid t
  have hsV1 : u16.heap.size < u17.heap.size := q17
  clear t b q17
  go_wp2_with fail
  refine (imFg_any _ _ _ _ _ _ _ _ _ V0.out.sl V1.out.sl hm0 hm1).mono ?_
  intro e u18 hR
  obtain ⟨AP0, cP0, dP0, rP0, rfl, ⟨t0, hc0, q18_0⟩, b⟩ := hR.resn HX0.out HY0.out
  replace R0 := Lib.hid (R0.out.below b)
  replace X0 := Lib.hid (X0.out.below b)
  replace Q0 := Lib.hid (Q0.out.below b)
  replace V0 := Lib.hid (V0.out.below b)
  replace V1 := Lib.hid (V1.out.below b)
  replace G := Lib.hid (G.out.trans (b.mono G.out.size))
  have P0 := Lib.hid t0
  have CP0 := Lib.hid hc0
  have hdP0 : u17.heap.size ≤ dP0 := q18_0
  have hlP0 : 0 < y0 → dP0 < u18.heap.size := t0.lt_
  have hzP : u17.heap.size ≤ u18.heap.size := b.size
  clear hR b t0 hc0 q18_0
  go_wp2_with fail
  refine (eqF_any _ _ _ _ _ _ _ _ P0.out.sl R0.out.sl hX0 (same_cny HY0.out CP0.out CR0.out)).mono ?_
  rintro e w' ⟨n19, rfl, rfl⟩
  go_wp2_with fail
  refine (heldt_any 1 (Q0.out.drewN _) hX0 (by omega)).mono ?_
  rintro e w' ⟨rfl, rfl⟩
  go_wp2
  go_ret
  exact ⟨rfl, (below_drewN G.out _)⟩
end Go.Proofs.Ytopgegciejmhaaa.fnExactFillGaps
