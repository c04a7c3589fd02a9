import Derived.Test.YtallegmkkbmelabCWaw
import Derived.Test.YtallegmkkbmelabCLaw
namespace Go.Proofs.Ytallegmkkbmelab.fnExactBackOfWaves
open Go.RowKit Ieee
set_option linter.unusedVariables false
set_option maxHeartbeats 2000000 in
theorem walk (a0 : Option Addr) (len0 cap0 : Nat) (z0 : List Nat) (a1 : Option Addr) (len1 cap1 : Nat) (z1 : List Nat) (w : World) (w0 : FRow w a0 len0 cap0 z0) (w1 : FRow w a1 len1 cap1 z1) :
    Calls Try.prog 3 #[.slice a0 len0 cap0, .slice a1 len1 cap1] w fun e w' => e = .returned (.bool true) ∧ Below w.heap.size w w' := by
  obtain ⟨hs0, hlc0, hcm0, _⟩ := w0
  unfold maxLen at hcm0
  have H0 := Lib.hid hs0
  clear hs0
  obtain ⟨hs1, hlc1, hcm1, _⟩ := w1
  unfold maxLen at hcm1
  have H1 := Lib.hid hs1
  clear hs1
  by_cases hm0 : len0 ≤ 1048576
  rotate_left
  · clear H0 H1
    go_enter Try.func3, Try.ntmps3
    go_wp2_with fail
    all_goals (go_ret; exact ⟨rfl, Below.refl _ _⟩)
  by_cases hm1 : len1 ≤ 1048576
  rotate_left
  · clear H0 H1
    go_enter Try.func3, Try.ntmps3
    go_wp2_with fail
    all_goals (go_ret; exact ⟨rfl, Below.refl _ _⟩)
  have hX : (bwR z0 z1).length ≤ 1048576 := bwR_len z0 z1
  have G := Lib.hid (Below.refl w.heap.size w)
  go_enter Try.func3, Try.ntmps3
  go_wp2_with fail
  refine (toFt_any _ _ _ _ _ (FSl.below H0.out G.out) hm0).mono ?_
  rintro e u1 ⟨rfl, t, b, q1⟩
  replace G := Lib.hid (G.out.trans (b.mono G.out.size))
  have S0 := Lib.hid t
  have hsS0 : w.heap.size < u1.heap.size := q1
  clear t b q1
  go_wp2_with fail
  refine (toFt_any _ _ _ _ _ (FSl.below H1.out G.out) hm1).mono ?_
  rintro e u2 ⟨rfl, t, b, q2⟩
  replace S0 := Lib.hid (S0.out.below b)
  replace G := Lib.hid (G.out.trans (b.mono G.out.size))
  have S1 := Lib.hid t
  have hsS1 : u1.heap.size < u2.heap.size := q2
  clear t b q2
  go_wp2_with fail
  refine (specBw_any _ _ _ _ _ _ _ _ _ S0.out.sl S1.out.sl hm0 hm1).mono ?_
  intro e u3 hR
  obtain ⟨AR, cR, dR, rR, rfl, t, hc, q3, b⟩ := hR.res
  replace S0 := Lib.hid (S0.out.below b)
  replace S1 := Lib.hid (S1.out.below b)
  replace G := Lib.hid (G.out.trans (b.mono G.out.size))
  have R := Lib.hid t
  have CR := Lib.hid hc
  have hdR : u2.heap.size ≤ dR := q3
  have hzR : u2.heap.size ≤ u3.heap.size := b.size
  have hlR : 0 < (bwR z0 z1).length → dR < u3.heap.size := t.lt_
  clear hR t hc b q3
  go_wp2_with fail
  refine (toFt_any _ _ _ _ _ (FSl.below H0.out G.out) hm0).mono ?_
  rintro e u4 ⟨rfl, t, b, q4⟩
  replace S0 := Lib.hid (S0.out.below b)
  replace S1 := Lib.hid (S1.out.below b)
  replace R := Lib.hid (R.out.below b)
  replace G := Lib.hid (G.out.trans (b.mono G.out.size))
  have X0 := Lib.hid t
  have hsX0 : u3.heap.size < u4.heap.size := q4
  clear t b q4
  go_wp2_with fail
  refine (toFt_any _ _ _ _ _ (FSl.below H1.out G.out) hm1).mono ?_
  rintro e u5 ⟨rfl, t, b, q5⟩
  replace S0 := Lib.hid (S0.out.below b)
  replace S1 := Lib.hid (S1.out.below b)
  replace R := Lib.hid (R.out.below b)
  replace X0 := Lib.hid (X0.out.below b)
  replace G := Lib.hid (G.out.trans (b.mono G.out.size))
  have X1 := Lib.hid t
  have hsX1 : u4.heap.size < u5.heap.size := q5
  clear t b q5
  clear S0 S1
  go_wp2_with fail
  refine (implBw_any _ _ _ _ _ _ _ _ _ X0.out.sl X1.out.sl hm0 hm1).mono ?_
  intro e u6 hR
  obtain ⟨AQ, cQ, dQ, rQ, rfl, t, hc, q6, b⟩ := hR.res
  replace R := Lib.hid (R.out.below b)
  replace X0 := Lib.hid (X0.out.below b)
  replace X1 := Lib.hid (X1.out.below b)
  replace G := Lib.hid (G.out.trans (b.mono G.out.size))
  have Q := Lib.hid t
  have CQ := Lib.hid hc
  have hdQ : u5.heap.size ≤ dQ := q6
  have hzQ : u5.heap.size ≤ u6.heap.size := b.size
  have hlQ : 0 < (bwR z0 z1).length → dQ < u6.heap.size := t.lt_
  clear hR t hc b q6
  go_wp2_with fail
  refine (eqF_any _ _ _ _ _ _ _ _ Q.out.sl R.out.sl hX (same_cn CQ.out CR.out)).mono ?_
  rintro e w' ⟨n7, rfl, rfl⟩
  replace R := Lib.hid (R.out.drewN n7)
  replace X0 := Lib.hid (X0.out.drewN n7)
  replace X1 := Lib.hid (X1.out.drewN n7)
  replace Q := Lib.hid (Q.out.drewN n7)
  replace G := Lib.hid (below_drewN G.out n7)
  go_wp2_with fail
  refine (toFt_any _ _ _ _ _ (FSl.below H0.out G.out) hm0).mono ?_
  rintro e u8 ⟨rfl, t, b, q8⟩
  replace R := Lib.hid (R.out.below b)
  replace X0 := Lib.hid (X0.out.below b)
  replace X1 := Lib.hid (X1.out.below b)
  replace Q := Lib.hid (Q.out.below b)
  replace G := Lib.hid (G.out.trans (b.mono G.out.size))
  have Y0 := Lib.hid t
  have hsY0 : u6.heap.size < u8.heap.size := q8
  clear t b q8
  go_wp2_with fail
  refine (eqF_any _ _ _ _ _ _ _ _ X0.out.sl Y0.out.sl hm0 (fun _ _ => rfl)).mono ?_
  rintro e w' ⟨n9, rfl, rfl⟩
  replace R := Lib.hid (R.out.drewN n9)
  replace X0 := Lib.hid (X0.out.drewN n9)
  replace X1 := Lib.hid (X1.out.drewN n9)
  replace Q := Lib.hid (Q.out.drewN n9)
  replace Y0 := Lib.hid (Y0.out.drewN n9)
  replace G := Lib.hid (below_drewN G.out n9)
  clear Y0
  go_wp2_with fail
  refine (toFt_any _ _ _ _ _ (FSl.below H1.out G.out) hm1).mono ?_
  rintro e u10 ⟨rfl, t, b, q10⟩
  replace R := Lib.hid (R.out.below b)
  replace X0 := Lib.hid (X0.out.below b)
  replace X1 := Lib.hid (X1.out.below b)
  replace Q := Lib.hid (Q.out.below b)
  replace G := Lib.hid (G.out.trans (b.mono G.out.size))
  have Y1 := Lib.hid t
  have hsY1 : u8.heap.size < u10.heap.size := q10
  clear t b q10
  go_wp2_with fail
  refine (eqF_any _ _ _ _ _ _ _ _ X1.out.sl Y1.out.sl hm1 (fun _ _ => rfl)).mono ?_
  rintro e w' ⟨n11, rfl, rfl⟩
  replace R := Lib.hid (R.out.drewN n11)
  replace X0 := Lib.hid (X0.out.drewN n11)
  replace X1 := Lib.hid (X1.out.drewN n11)
  replace Q := Lib.hid (Q.out.drewN n11)
  replace Y1 := Lib.hid (Y1.out.drewN n11)
  replace G := Lib.hid (below_drewN G.out n11)
  clear Y1
  go_wp2_with fail
  refine (markt_any 1 X0.out hm0 (by omega)).mono ?_
  rintro e u12 ⟨rfl, o, m⟩
  replace R := Lib.hid (R.out.only o (fun h0 => by (try have := hlR h0); (try have := hlQ h0); omega))
  replace X1 := Lib.hid (X1.out.only o (fun h0 => by (try have := hlR h0); (try have := hlQ h0); omega))
  replace Q := Lib.hid (Q.out.only o (fun h0 => by (try have := hlR h0); (try have := hlQ h0); omega))
  replace G := Lib.hid (G.out.trans (o.below (by have := G.out.size; omega)))
  replace X0 := Lib.hid m
  have hb12 : u12.heap.size = u10.heap.size := o.size
  have he12 : u10.heap.size ≤ u12.heap.size := Nat.le_of_eq hb12.symm
  clear o m hb12
  go_wp2_with fail
  refine (markt_any (1 + len0) X1.out hm1 (by omega)).mono ?_
  rintro e u13 ⟨rfl, o, m⟩
  replace R := Lib.hid (R.out.only o (fun h0 => by (try have := hlR h0); (try have := hlQ h0); omega))
  replace X0 := Lib.hid (X0.out.only o (fun h0 => by (try have := hlR h0); (try have := hlQ h0); omega))
  replace Q := Lib.hid (Q.out.only o (fun h0 => by (try have := hlR h0); (try have := hlQ h0); omega))
  replace G := Lib.hid (G.out.trans (o.below (by have := G.out.size; omega)))
  replace X1 := Lib.hid m
  have hb13 : u13.heap.size = u12.heap.size := o.size
  have he13 : u12.heap.size ≤ u13.heap.size := Nat.le_of_eq hb13.symm
  clear o m hb13
  go_wp2_with fail
  refine (eqF_any _ _ _ _ _ _ _ _ Q.out.sl R.out.sl hX (same_cn CQ.out CR.out)).mono ?_
  rintro e w' ⟨n14, rfl, rfl⟩
  replace R := Lib.hid (R.out.drewN n14)
  replace X0 := Lib.hid (X0.out.drewN n14)
  replace X1 := Lib.hid (X1.out.drewN n14)
  replace Q := Lib.hid (Q.out.drewN n14)
  replace G := Lib.hid (below_drewN G.out n14)
  go_wp2_with fail
  refine (markt_any 1 Q.out hX (by omega)).mono ?_
  rintro e u15 ⟨rfl, o, m⟩
  replace R := Lib.hid (R.out.only o (fun h0 => by (try have := hlR h0); (try have := hlQ h0); omega))
  replace X0 := Lib.hid (X0.out.only o (fun h0 => by (try have := hlR h0); (try have := hlQ h0); omega))
  replace X1 := Lib.hid (X1.out.only o (fun h0 => by (try have := hlR h0); (try have := hlQ h0); omega))
  replace G := Lib.hid (G.out.trans (o.below (by have := G.out.size; omega)))
  replace Q := Lib.hid m
  have hb15 : u15.heap.size = u13.heap.size := o.size
  have he15 : u13.heap.size ≤ u15.heap.size := Nat.le_of_eq hb15.symm
  clear o m hb15
  go_wp2_with fail
  refine (heldt_any 1 Q.out hX (by omega)).mono ?_
  rintro e w' ⟨rfl, rfl⟩
  go_wp2_with fail
  refine (toFt_any _ _ _ _ _ (FSl.below H0.out G.out) hm0).mono ?_
  rintro e u16 ⟨rfl, t, b, q16⟩
  replace R := Lib.hid (R.out.below b)
  replace X0 := Lib.hid (X0.out.below b)
  replace X1 := Lib.hid (X1.out.below b)
  replace Q := Lib.hid (Q.out.below b)
  replace G := Lib.hid (G.out.trans (b.mono G.out.size))
  have V0 := Lib.hid t
  have hsV0 : u15.heap.size < u16.heap.size := q16
  clear t b q16
  go_wp2_with fail
  refine (toFt_any _ _ _ _ _ (FSl.below H1.out G.out) hm1).mono ?_
  rintro e u17 ⟨rfl, t, b, q17⟩
  replace R := Lib.hid (R.out.below b)
  replace X0 := Lib.hid (X0.out.below b)
  replace X1 := Lib.hid (X1.out.below b)
  replace Q := Lib.hid (Q.out.below b)
  replace V0 := Lib.hid (V0.out.below b)
  replace G := Lib.hid (G.out.trans (b.mono G.out.size))
  have V1 := Lib.hid t
  have hsV1 : u16.heap.size < u17.heap.size := q17
  clear t b q17
  go_wp2_with fail
  refine (implBw_any _ _ _ _ _ _ _ _ _ V0.out.sl V1.out.sl hm0 hm1).mono ?_
  intro e u18 hR
  obtain ⟨AP, cP, dP, rP, rfl, t, hc, q18, b⟩ := hR.res
  replace R := Lib.hid (R.out.below b)
  replace X0 := Lib.hid (X0.out.below b)
  replace X1 := Lib.hid (X1.out.below b)
  replace Q := Lib.hid (Q.out.below b)
  replace V0 := Lib.hid (V0.out.below b)
  replace V1 := Lib.hid (V1.out.below b)
  replace G := Lib.hid (G.out.trans (b.mono G.out.size))
  have P := Lib.hid t
  have CP := Lib.hid hc
  have hdP : u17.heap.size ≤ dP := q18
  have hzP : u17.heap.size ≤ u18.heap.size := b.size
  have hlP : 0 < (bwR z0 z1).length → dP < u18.heap.size := t.lt_
  clear hR t hc b q18
  go_wp2_with fail
  refine (eqF_any _ _ _ _ _ _ _ _ P.out.sl R.out.sl hX (same_cn CP.out CR.out)).mono ?_
  rintro e w' ⟨n19, rfl, rfl⟩
  replace R := Lib.hid (R.out.drewN n19)
  replace X0 := Lib.hid (X0.out.drewN n19)
  replace X1 := Lib.hid (X1.out.drewN n19)
  replace Q := Lib.hid (Q.out.drewN n19)
  replace V0 := Lib.hid (V0.out.drewN n19)
  replace V1 := Lib.hid (V1.out.drewN n19)
  replace P := Lib.hid (P.out.drewN n19)
  replace G := Lib.hid (below_drewN G.out n19)
  go_wp2_with fail
  refine (heldt_any 1 Q.out hX (by omega)).mono ?_
  rintro e w' ⟨rfl, rfl⟩
  go_wp2
  go_ret
  exact ⟨rfl, G.out⟩
end Go.Proofs.Ytallegmkkbmelab.fnExactBackOfWaves
