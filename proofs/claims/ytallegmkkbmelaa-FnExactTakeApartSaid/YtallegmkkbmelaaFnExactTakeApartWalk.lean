import Derived.Test.YtallegmkkbmelaaCApz
import Derived.Test.YtallegmkkbmelaaCLaw
namespace Go.Proofs.Ytallegmkkbmelaa.fnExactTakeApart
open Go.RowKit Ieee
set_option linter.unusedVariables false
set_option maxHeartbeats 4000000 in
set_option maxRecDepth 100000 in
theorem walk (a0 : Option Addr) (len0 cap0 : Nat) (z0 : List Nat) (a1 : Int) (a2 : Int) (a3 : Int) (w : World) (w0 : FRow w a0 len0 cap0 z0) (w1 : (Lit.int .i64 a1).wf = true) (w2 : (Lit.int .i64 a2).wf = true) (w3 : (Lit.int .i64 a3).wf = true) :
    Calls Try.prog 6 #[.slice a0 len0 cap0, .int .i64 a1, .int .i64 a2, .int .i64 a3] w fun e w' => e = .returned (.bool true) ∧ Below w.heap.size w w' := by
  clear w1
  clear w2
  clear w3
  obtain ⟨hs0, hlc0, hcm0, _⟩ := w0
  unfold maxLen at hcm0
  have H0 := Lib.hid hs0
  clear hs0
  by_cases hm0 : len0 ≤ 1048576
  rotate_left
  · clear H0
    go_enter Try.func6, Try.ntmps6
    go_wp2_with fail
    all_goals (go_ret; exact ⟨rfl, Below.refl _ _⟩)
  obtain ⟨x0, hx0⟩ : ∃ x : List Nat, apL z0 a1 a2 a3 (apTr z0 a1 a2 a3) = x := ⟨_, rfl⟩
  have hX0 : x0.length ≤ 1048576 := by rw [← hx0]; exact apL_len z0 a1 a2 a3 (apTr_len z0 a1 a2 a3)
  obtain ⟨y0, hy0⟩ : ∃ y : Nat, x0.length = y := ⟨_, rfl⟩
  rw [hy0] at hX0
  obtain ⟨x1, hx1⟩ : ∃ x : List Nat, apL z0 a1 a2 a3 (apSe z0 a1 a2 a3) = x := ⟨_, rfl⟩
  have hX1 : x1.length ≤ 1048576 := by rw [← hx1]; exact apL_len z0 a1 a2 a3 (apSe_len z0 a1 a2 a3)
  obtain ⟨y1, hy1⟩ : ∃ y : Nat, x1.length = y := ⟨_, rfl⟩
  rw [hy1] at hX1
  obtain ⟨x2, hx2⟩ : ∃ x : List Nat, apL z0 a1 a2 a3 (apRe z0 a1 a2 a3) = x := ⟨_, rfl⟩
  have hX2 : x2.length ≤ 1048576 := by rw [← hx2]; exact apL_len z0 a1 a2 a3 (apRe_len z0 a1 a2 a3)
  obtain ⟨y2, hy2⟩ : ∃ y : Nat, x2.length = y := ⟨_, rfl⟩
  rw [hy2] at hX2
  have HX0 := Lib.hid hx0
  have HY0 := Lib.hid hy0
  have HX1 := Lib.hid hx1
  have HY1 := Lib.hid hy1
  have HX2 := Lib.hid hx2
  have HY2 := Lib.hid hy2
  clear hx0 hy0 hx1 hy1 hx2 hy2
  have G := Lib.hid (Below.refl w.heap.size w)
  go_enter Try.func6, Try.ntmps6
  go_wp2_with fail
  refine (toFt_any _ _ _ _ _ (FSl.below H0.out G.out) hm0).mono ?_
  rintro e u1 ⟨rfl, t, b, q1⟩
  replace G := Lib.hid (G.out.trans (b.mono G.out.size))
  have S0 := Lib.hid t
  have hsS0 : w.heap.size < u1.heap.size := q1
  clear t b q1
  go_wp2_with fail
  refine (specApa_any _ _ _ _ _ _ _ _ S0.out.sl hm0).mono ?_
  intro e u2 hR
  obtain ⟨AR0, cR0, dR0, rR0, AR1, cR1, dR1, rR1, AR2, cR2, dR2, rR2, rfl, ⟨t0, hc0, q2_0⟩, ⟨t1, hc1, q2_1⟩, ⟨t2, hc2, q2_2⟩, p2, b⟩ := hR.res HX0.out HY0.out HX1.out HY1.out HX2.out HY2.out
  replace S0 := Lib.hid (S0.out.below b)
  replace G := Lib.hid (G.out.trans (b.mono G.out.size))
  have R0 := Lib.hid t0
  have CR0 := Lib.hid hc0
  have hdR0 : u1.heap.size ≤ dR0 := q2_0
  have hlR0 : 0 < y0 → dR0 < u2.heap.size := t0.lt_
  have R1 := Lib.hid t1
  have CR1 := Lib.hid hc1
  have hdR1 : u1.heap.size ≤ dR1 := q2_1
  have hlR1 : 0 < y1 → dR1 < u2.heap.size := t1.lt_
  have R2 := Lib.hid t2
  have CR2 := Lib.hid hc2
  have hdR2 : u1.heap.size ≤ dR2 := q2_2
  have hlR2 : 0 < y2 → dR2 < u2.heap.size := t2.lt_
  have hzR : u1.heap.size ≤ u2.heap.size := b.size
  obtain ⟨pR01, pR02, pR10, pR12, pR20, pR21⟩ := p2
  clear hR b t0 hc0 q2_0 t1 hc1 q2_1 t2 hc2 q2_2
  go_wp2_with fail
  refine (toFt_any _ _ _ _ _ (FSl.below H0.out G.out) hm0).mono ?_
  rintro e u3 ⟨rfl, t, b, q3⟩
  replace S0 := Lib.hid (S0.out.below b)
  replace R0 := Lib.hid (R0.out.below b)
  replace R1 := Lib.hid (R1.out.below b)
  replace R2 := Lib.hid (R2.out.below b)
  replace G := Lib.hid (G.out.trans (b.mono G.out.size))
  have X0 := Lib.hid t
  have hsX0 : u2.heap.size < u3.heap.size := q3
  clear t b q3
  clear S0
  go_wp2_with fail
  refine (implApa_any _ _ _ _ _ _ _ _ X0.out.sl hm0).mono ?_
  intro e u4 hR
  obtain ⟨AQ0, cQ0, dQ0, rQ0, AQ1, cQ1, dQ1, rQ1, AQ2, cQ2, dQ2, rQ2, rfl, ⟨t0, hc0, q4_0⟩, ⟨t1, hc1, q4_1⟩, ⟨t2, hc2, q4_2⟩, p4, b⟩ := hR.res HX0.out HY0.out HX1.out HY1.out HX2.out HY2.out
  replace R0 := Lib.hid (R0.out.below b)
  replace R1 := Lib.hid (R1.out.below b)
  replace R2 := Lib.hid (R2.out.below b)
  replace X0 := Lib.hid (X0.out.below b)
  replace G := Lib.hid (G.out.trans (b.mono G.out.size))
  have Q0 := Lib.hid t0
  have CQ0 := Lib.hid hc0
  have hdQ0 : u3.heap.size ≤ dQ0 := q4_0
  have hlQ0 : 0 < y0 → dQ0 < u4.heap.size := t0.lt_
  have Q1 := Lib.hid t1
  have CQ1 := Lib.hid hc1
  have hdQ1 : u3.heap.size ≤ dQ1 := q4_1
  have hlQ1 : 0 < y1 → dQ1 < u4.heap.size := t1.lt_
  have Q2 := Lib.hid t2
  have CQ2 := Lib.hid hc2
  have hdQ2 : u3.heap.size ≤ dQ2 := q4_2
  have hlQ2 : 0 < y2 → dQ2 < u4.heap.size := t2.lt_
  have hzQ : u3.heap.size ≤ u4.heap.size := b.size
  obtain ⟨pQ01, pQ02, pQ10, pQ12, pQ20, pQ21⟩ := p4
  clear hR b t0 hc0 q4_0 t1 hc1 q4_1 t2 hc2 q4_2
  go_wp2_with fail
  refine (eqF_any _ _ _ _ _ _ _ _ Q0.out.sl R0.out.sl hX0 (same_cnn HY0.out CQ0.out CR0.out)).mono ?_
  rintro e w' ⟨n5, rfl, rfl⟩
  go_wp2_with fail
  refine (eqF_any _ _ _ _ _ _ _ _ (Q1.out.drewN _).sl (R1.out.drewN _).sl hX1 (same_cnn HY1.out CQ1.out CR1.out)).mono ?_
  rintro e w' ⟨n6, rfl, rfl⟩
  go_wp2_with fail
  refine (eqF_any _ _ _ _ _ _ _ _ (Q2.out.drewN _).sl (R2.out.drewN _).sl hX2 (same_cnn HY2.out CQ2.out CR2.out)).mono ?_
  rintro e w' ⟨n7, rfl, rfl⟩
  go_wp2_with fail
  refine (toFt_any _ _ _ _ _ (FSl.below H0.out (below_drewN G.out _)) hm0).mono ?_
  rintro e u8 ⟨rfl, t, b, q8⟩
  replace R0 := Lib.hid ((R0.out.drewN _).below b)
  replace R1 := Lib.hid ((R1.out.drewN _).below b)
  replace R2 := Lib.hid ((R2.out.drewN _).below b)
  replace X0 := Lib.hid ((X0.out.drewN _).below b)
  replace Q0 := Lib.hid ((Q0.out.drewN _).below b)
  replace Q1 := Lib.hid ((Q1.out.drewN _).below b)
  replace Q2 := Lib.hid ((Q2.out.drewN _).below b)
  replace G := Lib.hid ((below_drewN G.out _).trans (b.mono G.out.size))
  have Y0 := Lib.hid t
  have hsY0 : u4.heap.size < u8.heap.size := q8
  clear t b q8
  go_wp2_with fail
  refine (eqF_any _ _ _ _ _ _ _ _ X0.out.sl Y0.out.sl hm0 (fun _ _ => rfl)).mono ?_
  rintro e w' ⟨n9, rfl, rfl⟩
  clear Y0
  go_wp2_with fail
  refine (markt_any 1 (X0.out.drewN _) hm0 (by omega)).mono ?_
  rintro e u10 ⟨rfl, o, m⟩
  replace R0 := Lib.hid ((R0.out.drewN _).only o (fun h0 => by (try have := hlR0 h0); (try have := hlR1 h0); (try have := hlR2 h0); (try have := hlQ0 h0); (try have := hlQ1 h0); (try have := hlQ2 h0); omega))
  replace R1 := Lib.hid ((R1.out.drewN _).only o (fun h0 => by (try have := hlR0 h0); (try have := hlR1 h0); (try have := hlR2 h0); (try have := hlQ0 h0); (try have := hlQ1 h0); (try have := hlQ2 h0); omega))
  replace R2 := Lib.hid ((R2.out.drewN _).only o (fun h0 => by (try have := hlR0 h0); (try have := hlR1 h0); (try have := hlR2 h0); (try have := hlQ0 h0); (try have := hlQ1 h0); (try have := hlQ2 h0); omega))
  replace Q0 := Lib.hid ((Q0.out.drewN _).only o (fun h0 => by (try have := hlR0 h0); (try have := hlR1 h0); (try have := hlR2 h0); (try have := hlQ0 h0); (try have := hlQ1 h0); (try have := hlQ2 h0); omega))
  replace Q1 := Lib.hid ((Q1.out.drewN _).only o (fun h0 => by (try have := hlR0 h0); (try have := hlR1 h0); (try have := hlR2 h0); (try have := hlQ0 h0); (try have := hlQ1 h0); (try have := hlQ2 h0); omega))
  replace Q2 := Lib.hid ((Q2.out.drewN _).only o (fun h0 => by (try have := hlR0 h0); (try have := hlR1 h0); (try have := hlR2 h0); (try have := hlQ0 h0); (try have := hlQ1 h0); (try have := hlQ2 h0); omega))
  replace G := Lib.hid ((below_drewN G.out _).trans (o.below (by have := G.out.size; omega)))
  replace X0 := Lib.hid m
  have hb10 : u10.heap.size = u8.heap.size := o.size
  have he10 : u8.heap.size ≤ u10.heap.size := Nat.le_of_eq hb10.symm
  clear o m hb10
  go_wp2_with fail
  refine (eqF_any _ _ _ _ _ _ _ _ Q0.out.sl R0.out.sl hX0 (same_cnn HY0.out CQ0.out CR0.out)).mono ?_
  rintro e w' ⟨n11, rfl, rfl⟩
  go_wp2_with fail
  refine (eqF_any _ _ _ _ _ _ _ _ (Q1.out.drewN _).sl (R1.out.drewN _).sl hX1 (same_cnn HY1.out CQ1.out CR1.out)).mono ?_
  rintro e w' ⟨n12, rfl, rfl⟩
  go_wp2_with fail
  refine (eqF_any _ _ _ _ _ _ _ _ (Q2.out.drewN _).sl (R2.out.drewN _).sl hX2 (same_cnn HY2.out CQ2.out CR2.out)).mono ?_
  rintro e w' ⟨n13, rfl, rfl⟩
  go_wp2_with fail
  refine (markt_any 1 (Q0.out.drewN _) hX0 (by omega)).mono ?_
  rintro e u14 ⟨rfl, o, m⟩
  replace R0 := Lib.hid ((R0.out.drewN _).only o (fun h0 => by (try have := hlR0 h0); (try have := hlR1 h0); (try have := hlR2 h0); (try have := hlQ0 h0); (try have := hlQ1 h0); (try have := hlQ2 h0); omega))
  replace R1 := Lib.hid ((R1.out.drewN _).only o (fun h0 => by (try have := hlR0 h0); (try have := hlR1 h0); (try have := hlR2 h0); (try have := hlQ0 h0); (try have := hlQ1 h0); (try have := hlQ2 h0); omega))
  replace R2 := Lib.hid ((R2.out.drewN _).only o (fun h0 => by (try have := hlR0 h0); (try have := hlR1 h0); (try have := hlR2 h0); (try have := hlQ0 h0); (try have := hlQ1 h0); (try have := hlQ2 h0); omega))
  replace X0 := Lib.hid ((X0.out.drewN _).only o (fun h0 => by (try have := hlR0 h0); (try have := hlR1 h0); (try have := hlR2 h0); (try have := hlQ0 h0); (try have := hlQ1 h0); (try have := hlQ2 h0); omega))
  replace Q1 := Lib.hid ((Q1.out.drewN _).only o (fun h0 => by exact pQ10 h0))
  replace Q2 := Lib.hid ((Q2.out.drewN _).only o (fun h0 => by exact pQ20 h0))
  replace G := Lib.hid ((below_drewN G.out _).trans (o.below (by have := G.out.size; omega)))
  replace Q0 := Lib.hid m
  have hb14 : u14.heap.size = u10.heap.size := o.size
  have he14 : u10.heap.size ≤ u14.heap.size := Nat.le_of_eq hb14.symm
  clear o m hb14
  go_wp2_with fail
  refine (markt_any (1 + y0) Q1.out hX1 (by omega)).mono ?_
  rintro e u15 ⟨rfl, o, m⟩
  replace R0 := Lib.hid (R0.out.only o (fun h0 => by (try have := hlR0 h0); (try have := hlR1 h0); (try have := hlR2 h0); (try have := hlQ0 h0); (try have := hlQ1 h0); (try have := hlQ2 h0); omega))
  replace R1 := Lib.hid (R1.out.only o (fun h0 => by (try have := hlR0 h0); (try have := hlR1 h0); (try have := hlR2 h0); (try have := hlQ0 h0); (try have := hlQ1 h0); (try have := hlQ2 h0); omega))
  replace R2 := Lib.hid (R2.out.only o (fun h0 => by (try have := hlR0 h0); (try have := hlR1 h0); (try have := hlR2 h0); (try have := hlQ0 h0); (try have := hlQ1 h0); (try have := hlQ2 h0); omega))
  replace X0 := Lib.hid (X0.out.only o (fun h0 => by (try have := hlR0 h0); (try have := hlR1 h0); (try have := hlR2 h0); (try have := hlQ0 h0); (try have := hlQ1 h0); (try have := hlQ2 h0); omega))
  replace Q0 := Lib.hid (Q0.out.only o (fun h0 => by exact pQ01 h0))
  replace Q2 := Lib.hid (Q2.out.only o (fun h0 => by exact pQ21 h0))
  replace G := Lib.hid (G.out.trans (o.below (by have := G.out.size; omega)))
  replace Q1 := Lib.hid m
  have hb15 : u15.heap.size = u14.heap.size := o.size
  have he15 : u14.heap.size ≤ u15.heap.size := Nat.le_of_eq hb15.symm
  clear o m hb15
  go_wp2_with fail
  refine (markt_any ((1 + y0) + y1) Q2.out hX2 (by omega)).mono ?_
  rintro e u16 ⟨rfl, o, m⟩
  replace R0 := Lib.hid (R0.out.only o (fun h0 => by (try have := hlR0 h0); (try have := hlR1 h0); (try have := hlR2 h0); (try have := hlQ0 h0); (try have := hlQ1 h0); (try have := hlQ2 h0); omega))
  replace R1 := Lib.hid (R1.out.only o (fun h0 => by (try have := hlR0 h0); (try have := hlR1 h0); (try have := hlR2 h0); (try have := hlQ0 h0); (try have := hlQ1 h0); (try have := hlQ2 h0); omega))
  replace R2 := Lib.hid (R2.out.only o (fun h0 => by (try have := hlR0 h0); (try have := hlR1 h0); (try have := hlR2 h0); (try have := hlQ0 h0); (try have := hlQ1 h0); (try have := hlQ2 h0); omega))
  replace X0 := Lib.hid (X0.out.only o (fun h0 => by (try have := hlR0 h0); (try have := hlR1 h0); (try have := hlR2 h0); (try have := hlQ0 h0); (try have := hlQ1 h0); (try have := hlQ2 h0); omega))
  replace Q0 := Lib.hid (Q0.out.only o (fun h0 => by exact pQ02 h0))
  replace Q1 := Lib.hid (Q1.out.only o (fun h0 => by exact pQ12 h0))
  replace G := Lib.hid (G.out.trans (o.below (by have := G.out.size; omega)))
  replace Q2 := Lib.hid m
  have hb16 : u16.heap.size = u15.heap.size := o.size
  have he16 : u15.heap.size ≤ u16.heap.size := Nat.le_of_eq hb16.symm
  clear o m hb16
  go_wp2_with fail
  refine (heldt_any 1 Q0.out hX0 (by omega)).mono ?_
  rintro e w' ⟨rfl, rfl⟩
  go_wp2_with fail
  refine (heldt_any (1 + y0) Q1.out hX1 (by omega)).mono ?_
  rintro e w' ⟨rfl, rfl⟩
  go_wp2_with fail
  refine (heldt_any ((1 + y0) + y1) Q2.out hX2 (by omega)).mono ?_
  rintro e w' ⟨rfl, rfl⟩
  go_wp2_with fail
  refine (toFt_any _ _ _ _ _ (FSl.below H0.out G.out) hm0).mono ?_
  rintro e u17 ⟨rfl, t, b, q17⟩
  replace R0 := Lib.hid (R0.out.below b)
  replace R1 := Lib.hid (R1.out.below b)
  replace R2 := Lib.hid (R2.out.below b)
  replace X0 := Lib.hid (X0.out.below b)
  replace Q0 := Lib.hid (Q0.out.below b)
  replace Q1 := Lib.hid (Q1.out.below b)
  replace Q2 := Lib.hid (Q2.out.below b)
  replace G := Lib.hid (G.out.trans (b.mono G.out.size))
  have V0 := Lib.hid t
  have hsV0 : u16.heap.size < u17.heap.size := q17
  clear t b q17
  go_wp2_with fail
  refine (implApa_any _ _ _ _ _ _ _ _ V0.out.sl hm0).mono ?_
  intro e u18 hR
  obtain ⟨AP0, cP0, dP0, rP0, AP1, cP1, dP1, rP1, AP2, cP2, dP2, rP2, rfl, ⟨t0, hc0, q18_0⟩, ⟨t1, hc1, q18_1⟩, ⟨t2, hc2, q18_2⟩, p18, b⟩ := hR.res HX0.out HY0.out HX1.out HY1.out HX2.out HY2.out
  replace R0 := Lib.hid (R0.out.below b)
  replace R1 := Lib.hid (R1.out.below b)
  replace R2 := Lib.hid (R2.out.below b)
  replace X0 := Lib.hid (X0.out.below b)
  replace Q0 := Lib.hid (Q0.out.below b)
  replace Q1 := Lib.hid (Q1.out.below b)
  replace Q2 := Lib.hid (Q2.out.below b)
  replace V0 := Lib.hid (V0.out.below b)
  replace G := Lib.hid (G.out.trans (b.mono G.out.size))
  have P0 := Lib.hid t0
  have CP0 := Lib.hid hc0
  have hdP0 : u17.heap.size ≤ dP0 := q18_0
  have hlP0 : 0 < y0 → dP0 < u18.heap.size := t0.lt_
  have P1 := Lib.hid t1
  have CP1 := Lib.hid hc1
  have hdP1 : u17.heap.size ≤ dP1 := q18_1
  have hlP1 : 0 < y1 → dP1 < u18.heap.size := t1.lt_
  have P2 := Lib.hid t2
  have CP2 := Lib.hid hc2
  have hdP2 : u17.heap.size ≤ dP2 := q18_2
  have hlP2 : 0 < y2 → dP2 < u18.heap.size := t2.lt_
  have hzP : u17.heap.size ≤ u18.heap.size := b.size
  obtain ⟨pP01, pP02, pP10, pP12, pP20, pP21⟩ := p18
  clear hR b t0 hc0 q18_0 t1 hc1 q18_1 t2 hc2 q18_2
  go_wp2_with fail
  refine (eqF_any _ _ _ _ _ _ _ _ P0.out.sl R0.out.sl hX0 (same_cnn HY0.out CP0.out CR0.out)).mono ?_
  rintro e w' ⟨n19, rfl, rfl⟩
  go_wp2_with fail
  refine (eqF_any _ _ _ _ _ _ _ _ (P1.out.drewN _).sl (R1.out.drewN _).sl hX1 (same_cnn HY1.out CP1.out CR1.out)).mono ?_
  rintro e w' ⟨n20, rfl, rfl⟩
  go_wp2_with fail
  refine (eqF_any _ _ _ _ _ _ _ _ (P2.out.drewN _).sl (R2.out.drewN _).sl hX2 (same_cnn HY2.out CP2.out CR2.out)).mono ?_
  rintro e w' ⟨n21, rfl, rfl⟩
  go_wp2_with fail
  refine (heldt_any 1 (Q0.out.drewN _) hX0 (by omega)).mono ?_
  rintro e w' ⟨rfl, rfl⟩
  go_wp2_with fail
  refine (heldt_any (1 + y0) (Q1.out.drewN _) hX1 (by omega)).mono ?_
  rintro e w' ⟨rfl, rfl⟩
  go_wp2_with fail
  refine (heldt_any ((1 + y0) + y1) (Q2.out.drewN _) hX2 (by omega)).mono ?_
  rintro e w' ⟨rfl, rfl⟩
  go_wp2
  go_ret
  exact ⟨rfl, (below_drewN G.out _)⟩
end Go.Proofs.Ytallegmkkbmelaa.fnExactTakeApart
