import Derived.Test.YtldaamgohdnjnaaLbz
import Derived.Test.YtldaamgohdnjnaaCLaw
import Derived.Test.YtldaamgohdnjnaaRow
namespace Go.Proofs.Ytldaamgohdnjnaa.fnExactLevelBack
open Go.RowKit Ieee
set_option linter.unusedVariables false
set_option maxHeartbeats 4000000 in
set_option maxRecDepth 100000 in
theorem walk (x0_0 x0_1 x0_2 x0_3 : Nat) (a1 : Option Addr) (len1 cap1 : Nat) (z1 : List Nat) (a2 : Option Addr) (len2 cap2 : Nat) (z2 : List Bool) (w : World) (w1 : FRow w a1 len1 cap1 z1) (w2 : BRow w a2 len2 cap2 z2) :
    Calls Try.prog 6 #[.agg #[.float .f32 x0_0, .float .f32 x0_1, .float .f32 x0_2, .float .f32 x0_3], .slice a1 len1 cap1, .slice a2 len2 cap2] w fun e w' => e = .returned (.bool true) ∧ Below w.heap.size w w' := by
  obtain ⟨hs1, hlc1, hcm1, hb1⟩ := w1
  unfold maxLen at hcm1
  have H1 := Lib.hid hs1
  clear hs1
  obtain ⟨hs2, hlc2, hcm2⟩ := w2
  unfold maxLen at hcm2
  have H2 := Lib.hid hs2
  clear hs2
  by_cases hm1 : len1 ≤ 1048576
  rotate_left
  · clear H1 H2
    go_enter Try.func6, Try.ntmps6
    go_wp2_with fail
    all_goals (go_ret; exact ⟨rfl, ((Below.refl _ _).alloc (Nat.le_refl _) _)⟩)
  by_cases hm2 : len2 ≤ 1048576
  rotate_left
  · clear H1 H2
    go_enter Try.func6, Try.ntmps6
    go_wp2_with fail
    all_goals (go_ret; exact ⟨rfl, ((Below.refl _ _).alloc (Nat.le_refl _) _)⟩)
  obtain ⟨x0, hx0⟩ : ∃ x : List Nat, lkX0 x0_0 x0_1 x0_2 x0_3 z1 z2 = x := ⟨_, rfl⟩
  have hX0 : x0.length ≤ 1048576 := by rw [← hx0]; exact lkX0_len
  obtain ⟨y0, hy0⟩ : ∃ y : Nat, x0.length = y := ⟨_, rfl⟩
  rw [hy0] at hX0
  obtain ⟨x1, hx1⟩ : ∃ x : List Nat, lkX1 x0_0 x0_1 x0_2 x0_3 z1 z2 = x := ⟨_, rfl⟩
  have hX1 : x1.length ≤ 1048576 := by rw [← hx1]; exact lkX1_len
  obtain ⟨y1, hy1⟩ : ∃ y : Nat, x1.length = y := ⟨_, rfl⟩
  rw [hy1] at hX1
  have HX0 := Lib.hid hx0
  have HY0 := Lib.hid hy0
  have HX1 := Lib.hid hx1
  have HY1 := Lib.hid hy1
  clear hx0 hy0 hx1 hy1
  have G := Lib.hid ((Below.refl w.heap.size w).alloc (Nat.le_refl _) (.cells #[.float .f32 x0_0, .float .f32 x0_1, .float .f32 x0_2, .float .f32 x0_3] 37))
  have BX := Lib.hid (NumsIn.new w [x0_0, x0_1, x0_2, x0_3] 37)
  go_enter Try.func6, Try.ntmps6
  obtain ⟨kx0, kx1, kx2, kx3⟩ := BX.out.c4
  go_wp2_with fail
  refine (tolv_any _ _ _ _ _).mono ?_
  rintro e u1 ⟨rfl, b⟩
  clear kx0 kx1 kx2 kx3
  have hsu1 : w.heap.size < u1.heap.size := Nat.lt_of_lt_of_le (by simp) b.size
  replace BX := Lib.hid (BX.out.below b)
  replace G := Lib.hid (G.out.trans (b.mono G.out.size))
  clear b
  go_wp2_with fail
  refine (toFt_any _ _ _ _ _ (FSl.below H1.out G.out) hm1).mono ?_
  rintro e u2 ⟨rfl, t, b, q2⟩
  replace BX := Lib.hid (BX.out.below b)
  replace G := Lib.hid (G.out.trans (b.mono G.out.size))
  have S1 := Lib.hid t
  have hsS1 : u1.heap.size < u2.heap.size := q2
  clear t b q2
  go_wp2_with fail
  refine (toBt_any _ _ _ _ _ (BSl.below H2.out G.out) hm2).mono ?_
  rintro e u3 ⟨rfl, t, b, q3⟩
  replace BX := Lib.hid (BX.out.below b)
  replace S1 := Lib.hid (S1.out.below b)
  replace G := Lib.hid (G.out.trans (b.mono G.out.size))
  have S2 := Lib.hid t
  have hsS2 : u2.heap.size < u3.heap.size := q3
  clear t b q3
  go_wp2_with fail
  refine (spLb_any _ _ _ _ _ _ _ _ _ _ _ _ _ S1.out.sl S2.out.sl hm1 hm2).mono ?_
  intro e u4 hR
  obtain ⟨AR0, cR0, dR0, rR0, AR1, cR1, dR1, rR1, rfl, ⟨t0, hc0, q4_0⟩, ⟨t1, hc1, q4_1⟩, p4, b⟩ := hR.res HX0.out HY0.out HX1.out HY1.out
  replace BX := Lib.hid (BX.out.below b)
  replace S1 := Lib.hid (S1.out.below b)
  replace S2 := Lib.hid (S2.out.below b)
  replace G := Lib.hid (G.out.trans (b.mono G.out.size))
  have R0 := Lib.hid t0
  have CR0 := Lib.hid hc0
  have hdR0 : u3.heap.size ≤ dR0 := q4_0
  have hlR0 : 0 < y0 → dR0 < u4.heap.size := t0.lt_
  have R1 := Lib.hid t1
  have CR1 := Lib.hid hc1
  have hdR1 : u3.heap.size ≤ dR1 := q4_1
  have hlR1 : 0 < y1 → dR1 < u4.heap.size := t1.lt_
  have hzR : u3.heap.size ≤ u4.heap.size := b.size
  obtain ⟨pR01, pR10⟩ := p4
  clear hR b t0 hc0 q4_0 t1 hc1 q4_1
  clear S1 S2
  go_wp2_with fail
  refine (toFt_any _ _ _ _ _ (FSl.below H1.out G.out) hm1).mono ?_
  rintro e u5 ⟨rfl, t, b, q5⟩
  replace BX := Lib.hid (BX.out.below b)
  replace R0 := Lib.hid (R0.out.below b)
  replace R1 := Lib.hid (R1.out.below b)
  replace G := Lib.hid (G.out.trans (b.mono G.out.size))
  have X1 := Lib.hid t
  have hsX1 : u4.heap.size < u5.heap.size := q5
  clear t b q5
  go_wp2_with fail
  refine (toBt_any _ _ _ _ _ (BSl.below H2.out G.out) hm2).mono ?_
  rintro e u6 ⟨rfl, t, b, q6⟩
  replace BX := Lib.hid (BX.out.below b)
  replace R0 := Lib.hid (R0.out.below b)
  replace R1 := Lib.hid (R1.out.below b)
  replace X1 := Lib.hid (X1.out.below b)
  replace G := Lib.hid (G.out.trans (b.mono G.out.size))
  have X2 := Lib.hid t
  have hsX2 : u5.heap.size < u6.heap.size := q6
  clear t b q6
  obtain ⟨kx0, kx1, kx2, kx3⟩ := BX.out.c4
  go_wp2_with fail
  refine (tolv_any _ _ _ _ _).mono ?_
  rintro e u7 ⟨rfl, b⟩
  clear kx0 kx1 kx2 kx3
  have hsu7 : u6.heap.size ≤ u7.heap.size := b.size
  replace BX := Lib.hid (BX.out.below b)
  replace R0 := Lib.hid (R0.out.below b)
  replace R1 := Lib.hid (R1.out.below b)
  replace X1 := Lib.hid (X1.out.below b)
  replace X2 := Lib.hid (X2.out.below b)
  replace G := Lib.hid (G.out.trans (b.mono G.out.size))
  clear b
  go_wp2_with fail
  refine (imLb_any _ _ _ _ _ _ _ _ _ _ _ _ _ X1.out.sl X2.out.sl hm1 hm2).mono ?_
  intro e u8 hR
  obtain ⟨AQ0, cQ0, dQ0, rQ0, AQ1, cQ1, dQ1, rQ1, rfl, ⟨t0, hc0, q8_0⟩, ⟨t1, hc1, q8_1⟩, p8, b⟩ := hR.res HX0.out HY0.out HX1.out HY1.out
  replace BX := Lib.hid (BX.out.below b)
  replace R0 := Lib.hid (R0.out.below b)
  replace R1 := Lib.hid (R1.out.below b)
  replace X1 := Lib.hid (X1.out.below b)
  replace X2 := Lib.hid (X2.out.below b)
  replace G := Lib.hid (G.out.trans (b.mono G.out.size))
  have Q0 := Lib.hid t0
  have CQ0 := Lib.hid hc0
  have hdQ0 : u7.heap.size ≤ dQ0 := q8_0
  have hlQ0 : 0 < y0 → dQ0 < u8.heap.size := t0.lt_
  have Q1 := Lib.hid t1
  have CQ1 := Lib.hid hc1
  have hdQ1 : u7.heap.size ≤ dQ1 := q8_1
  have hlQ1 : 0 < y1 → dQ1 < u8.heap.size := t1.lt_
  have hzQ : u7.heap.size ≤ u8.heap.size := b.size
  obtain ⟨pQ01, pQ10⟩ := p8
  clear hR b t0 hc0 q8_0 t1 hc1 q8_1
  go_wp2_with fail
  refine (eqF_any _ _ _ _ _ _ _ _ Q0.out.sl R0.out.sl hX0 (same_cny HY0.out CQ0.out CR0.out)).mono ?_
  rintro e w' ⟨n9, rfl, rfl⟩
  go_wp2_with fail
  refine (eqF_any _ _ _ _ _ _ _ _ (Q1.out.drewN _).sl (R1.out.drewN _).sl hX1 (same_cny HY1.out CQ1.out CR1.out)).mono ?_
  rintro e w' ⟨n10, rfl, rfl⟩
  go_wp2_with fail
  refine (toFt_any _ _ _ _ _ (FSl.below H1.out (below_drewN G.out _)) hm1).mono ?_
  rintro e u11 ⟨rfl, t, b, q11⟩
  replace BX := Lib.hid ((BX.out.drewN _).below b)
  replace R0 := Lib.hid ((R0.out.drewN _).below b)
  replace R1 := Lib.hid ((R1.out.drewN _).below b)
  replace X1 := Lib.hid ((X1.out.drewN _).below b)
  replace X2 := Lib.hid ((X2.out.drewN _).below b)
  replace Q0 := Lib.hid ((Q0.out.drewN _).below b)
  replace Q1 := Lib.hid ((Q1.out.drewN _).below b)
  replace G := Lib.hid ((below_drewN G.out _).trans (b.mono G.out.size))
  have Y1 := Lib.hid t
  have hsY1 : u8.heap.size < u11.heap.size := q11
  clear t b q11
  go_wp2_with fail
  refine (eqF_any _ _ _ _ _ _ _ _ X1.out.sl Y1.out.sl hm1 (fun _ _ => rfl)).mono ?_
  rintro e w' ⟨n12, rfl, rfl⟩
  clear Y1
  go_wp2_with fail
  refine (toBt_any _ _ _ _ _ (BSl.below H2.out (below_drewN G.out _)) hm2).mono ?_
  rintro e u13 ⟨rfl, t, b, q13⟩
  replace BX := Lib.hid ((BX.out.drewN _).below b)
  replace R0 := Lib.hid ((R0.out.drewN _).below b)
  replace R1 := Lib.hid ((R1.out.drewN _).below b)
  replace X1 := Lib.hid ((X1.out.drewN _).below b)
  replace X2 := Lib.hid ((X2.out.drewN _).below b)
  replace Q0 := Lib.hid ((Q0.out.drewN _).below b)
  replace Q1 := Lib.hid ((Q1.out.drewN _).below b)
  replace G := Lib.hid ((below_drewN G.out _).trans (b.mono G.out.size))
  have Y2 := Lib.hid t
  have hsY2 : u11.heap.size < u13.heap.size := q13
  clear t b q13
  go_wp2_with fail
  refine (eqB_any _ _ _ _ _ _ _ X2.out.sl Y2.out.sl hm2).mono ?_
  rintro e w' ⟨n14, rfl, rfl⟩
  clear Y2
  go_wp2_with fail
  refine (markt_any 1 (X1.out.drewN _) hm1 (by omega)).mono ?_
  rintro e u15 ⟨rfl, o, m⟩
  replace BX := Lib.hid ((BX.out.drewN _).only o (by omega))
  replace R0 := Lib.hid ((R0.out.drewN _).only o (fun h0 => by (try have := hlR0 h0); (try have := hlR1 h0); (try have := hlQ0 h0); (try have := hlQ1 h0); omega))
  replace R1 := Lib.hid ((R1.out.drewN _).only o (fun h0 => by (try have := hlR0 h0); (try have := hlR1 h0); (try have := hlQ0 h0); (try have := hlQ1 h0); omega))
  replace X2 := Lib.hid ((X2.out.drewN _).only o (fun h0 => by (try have := hlR0 h0); (try have := hlR1 h0); (try have := hlQ0 h0); (try have := hlQ1 h0); omega))
  replace Q0 := Lib.hid ((Q0.out.drewN _).only o (fun h0 => by (try have := hlR0 h0); (try have := hlR1 h0); (try have := hlQ0 h0); (try have := hlQ1 h0); omega))
  replace Q1 := Lib.hid ((Q1.out.drewN _).only o (fun h0 => by (try have := hlR0 h0); (try have := hlR1 h0); (try have := hlQ0 h0); (try have := hlQ1 h0); omega))
  replace G := Lib.hid ((below_drewN G.out _).trans (o.below (by have := G.out.size; omega)))
  replace X1 := Lib.hid m
  have hb15 : u15.heap.size = u13.heap.size := o.size
  have he15 : u13.heap.size ≤ u15.heap.size := Nat.le_of_eq hb15.symm
  clear o m hb15
  go_wp2_with fail
  refine (bmarkt_any (1 + len1) X2.out hm2 (by omega)).mono ?_
  rintro e u16 ⟨rfl, o⟩
  replace BX := Lib.hid (BX.out.only o (by omega))
  replace R0 := Lib.hid (R0.out.only o (fun h0 => by (try have := hlR0 h0); (try have := hlR1 h0); (try have := hlQ0 h0); (try have := hlQ1 h0); omega))
  replace R1 := Lib.hid (R1.out.only o (fun h0 => by (try have := hlR0 h0); (try have := hlR1 h0); (try have := hlQ0 h0); (try have := hlQ1 h0); omega))
  replace X1 := Lib.hid (X1.out.only o (fun h0 => by (try have := hlR0 h0); (try have := hlR1 h0); (try have := hlQ0 h0); (try have := hlQ1 h0); omega))
  replace Q0 := Lib.hid (Q0.out.only o (fun h0 => by (try have := hlR0 h0); (try have := hlR1 h0); (try have := hlQ0 h0); (try have := hlQ1 h0); omega))
  replace Q1 := Lib.hid (Q1.out.only o (fun h0 => by (try have := hlR0 h0); (try have := hlR1 h0); (try have := hlQ0 h0); (try have := hlQ1 h0); omega))
  replace G := Lib.hid (G.out.trans (o.below (by have := G.out.size; omega)))
  clear X2
  have hb16 : u16.heap.size = u15.heap.size := o.size
  have he16 : u15.heap.size ≤ u16.heap.size := Nat.le_of_eq hb16.symm
  clear o hb16
  go_wp2_with fail
  refine (eqF_any _ _ _ _ _ _ _ _ Q0.out.sl R0.out.sl hX0 (same_cny HY0.out CQ0.out CR0.out)).mono ?_
  rintro e w' ⟨n17, rfl, rfl⟩
  go_wp2_with fail
  refine (eqF_any _ _ _ _ _ _ _ _ (Q1.out.drewN _).sl (R1.out.drewN _).sl hX1 (same_cny HY1.out CQ1.out CR1.out)).mono ?_
  rintro e w' ⟨n18, rfl, rfl⟩
  go_wp2_with fail
  refine (markt_any 1 (Q0.out.drewN _) hX0 (by omega)).mono ?_
  rintro e u19 ⟨rfl, o, m⟩
  replace BX := Lib.hid ((BX.out.drewN _).only o (by omega))
  replace R0 := Lib.hid ((R0.out.drewN _).only o (fun h0 => by (try have := hlR0 h0); (try have := hlR1 h0); (try have := hlQ0 h0); (try have := hlQ1 h0); omega))
  replace R1 := Lib.hid ((R1.out.drewN _).only o (fun h0 => by (try have := hlR0 h0); (try have := hlR1 h0); (try have := hlQ0 h0); (try have := hlQ1 h0); omega))
  replace X1 := Lib.hid ((X1.out.drewN _).only o (fun h0 => by (try have := hlR0 h0); (try have := hlR1 h0); (try have := hlQ0 h0); (try have := hlQ1 h0); omega))
  replace Q1 := Lib.hid ((Q1.out.drewN _).only o (fun h0 => by exact pQ10 h0))
  replace G := Lib.hid ((below_drewN G.out _).trans (o.below (by have := G.out.size; omega)))
  replace Q0 := Lib.hid m
  have hb19 : u19.heap.size = u16.heap.size := o.size
  have he19 : u16.heap.size ≤ u19.heap.size := Nat.le_of_eq hb19.symm
  clear o m hb19
  go_wp2_with fail
  refine (markt_any (1 + y0) Q1.out hX1 (by omega)).mono ?_
  rintro e u20 ⟨rfl, o, m⟩
  replace BX := Lib.hid (BX.out.only o (by omega))
  replace R0 := Lib.hid (R0.out.only o (fun h0 => by (try have := hlR0 h0); (try have := hlR1 h0); (try have := hlQ0 h0); (try have := hlQ1 h0); omega))
  replace R1 := Lib.hid (R1.out.only o (fun h0 => by (try have := hlR0 h0); (try have := hlR1 h0); (try have := hlQ0 h0); (try have := hlQ1 h0); omega))
  replace X1 := Lib.hid (X1.out.only o (fun h0 => by (try have := hlR0 h0); (try have := hlR1 h0); (try have := hlQ0 h0); (try have := hlQ1 h0); omega))
  replace Q0 := Lib.hid (Q0.out.only o (fun h0 => by exact pQ01 h0))
  replace G := Lib.hid (G.out.trans (o.below (by have := G.out.size; omega)))
  replace Q1 := Lib.hid m
  have hb20 : u20.heap.size = u19.heap.size := o.size
  have he20 : u19.heap.size ≤ u20.heap.size := Nat.le_of_eq hb20.symm
  clear o m hb20
  go_wp2_with fail
  refine (heldt_any 1 Q0.out hX0 (by omega)).mono ?_
  rintro e w' ⟨rfl, rfl⟩
  go_wp2_with fail
  refine (heldt_any (1 + y0) Q1.out hX1 (by omega)).mono ?_
  rintro e w' ⟨rfl, rfl⟩
  obtain ⟨kx0, kx1, kx2, kx3⟩ := BX.out.c4
  go_wp2_with fail
  refine (tolv_any _ _ _ _ _).mono ?_
  rintro e u21 ⟨rfl, b⟩
  clear kx0 kx1 kx2 kx3
  have hsu21 : u20.heap.size ≤ u21.heap.size := b.size
  replace BX := Lib.hid (BX.out.below b)
  replace R0 := Lib.hid (R0.out.below b)
  replace R1 := Lib.hid (R1.out.below b)
  replace X1 := Lib.hid (X1.out.below b)
  replace Q0 := Lib.hid (Q0.out.below b)
  replace Q1 := Lib.hid (Q1.out.below b)
  replace G := Lib.hid (G.out.trans (b.mono G.out.size))
  clear b
  go_wp2_with fail
  refine (toFt_any _ _ _ _ _ (FSl.below H1.out G.out) hm1).mono ?_
  rintro e u22 ⟨rfl, t, b, q22⟩
  replace BX := Lib.hid (BX.out.below b)
  replace R0 := Lib.hid (R0.out.below b)
  replace R1 := Lib.hid (R1.out.below b)
  replace X1 := Lib.hid (X1.out.below b)
  replace Q0 := Lib.hid (Q0.out.below b)
  replace Q1 := Lib.hid (Q1.out.below b)
  replace G := Lib.hid (G.out.trans (b.mono G.out.size))
  have V1 := Lib.hid t
  have hsV1 : u21.heap.size < u22.heap.size := q22
  clear t b q22
  go_wp2_with fail
  refine (toBt_any _ _ _ _ _ (BSl.below H2.out G.out) hm2).mono ?_
  rintro e u23 ⟨rfl, t, b, q23⟩
  replace BX := Lib.hid (BX.out.below b)
  replace R0 := Lib.hid (R0.out.below b)
  replace R1 := Lib.hid (R1.out.below b)
  replace X1 := Lib.hid (X1.out.below b)
  replace Q0 := Lib.hid (Q0.out.below b)
  replace Q1 := Lib.hid (Q1.out.below b)
  replace V1 := Lib.hid (V1.out.below b)
  replace G := Lib.hid (G.out.trans (b.mono G.out.size))
  have V2 := Lib.hid t
  have hsV2 : u22.heap.size < u23.heap.size := q23
  clear t b q23
  go_wp2_with fail
  refine (imLb_any _ _ _ _ _ _ _ _ _ _ _ _ _ V1.out.sl V2.out.sl hm1 hm2).mono ?_
  intro e u24 hR
  obtain ⟨AP0, cP0, dP0, rP0, AP1, cP1, dP1, rP1, rfl, ⟨t0, hc0, q24_0⟩, ⟨t1, hc1, q24_1⟩, p24, b⟩ := hR.res HX0.out HY0.out HX1.out HY1.out
  replace BX := Lib.hid (BX.out.below b)
  replace R0 := Lib.hid (R0.out.below b)
  replace R1 := Lib.hid (R1.out.below b)
  replace X1 := Lib.hid (X1.out.below b)
  replace Q0 := Lib.hid (Q0.out.below b)
  replace Q1 := Lib.hid (Q1.out.below b)
  replace V1 := Lib.hid (V1.out.below b)
  replace V2 := Lib.hid (V2.out.below b)
  replace G := Lib.hid (G.out.trans (b.mono G.out.size))
  have P0 := Lib.hid t0
  have CP0 := Lib.hid hc0
  have hdP0 : u23.heap.size ≤ dP0 := q24_0
  have hlP0 : 0 < y0 → dP0 < u24.heap.size := t0.lt_
  have P1 := Lib.hid t1
  have CP1 := Lib.hid hc1
  have hdP1 : u23.heap.size ≤ dP1 := q24_1
  have hlP1 : 0 < y1 → dP1 < u24.heap.size := t1.lt_
  have hzP : u23.heap.size ≤ u24.heap.size := b.size
  obtain ⟨pP01, pP10⟩ := p24
  clear hR b t0 hc0 q24_0 t1 hc1 q24_1
  go_wp2_with fail
  refine (eqF_any _ _ _ _ _ _ _ _ P0.out.sl R0.out.sl hX0 (same_cny HY0.out CP0.out CR0.out)).mono ?_
  rintro e w' ⟨n25, rfl, rfl⟩
  go_wp2_with fail
  refine (eqF_any _ _ _ _ _ _ _ _ (P1.out.drewN _).sl (R1.out.drewN _).sl hX1 (same_cny HY1.out CP1.out CR1.out)).mono ?_
  rintro e w' ⟨n26, rfl, rfl⟩
  go_wp2_with fail
  refine (heldt_any 1 (Q0.out.drewN _) hX0 (by omega)).mono ?_
  rintro e w' ⟨rfl, rfl⟩
  go_wp2_with fail
  refine (heldt_any (1 + y0) (Q1.out.drewN _) hX1 (by omega)).mono ?_
  rintro e w' ⟨rfl, rfl⟩
  go_wp2
  go_ret
  exact ⟨rfl, (below_drewN G.out _)⟩
end Go.Proofs.Ytldaamgohdnjnaa.fnExactLevelBack
