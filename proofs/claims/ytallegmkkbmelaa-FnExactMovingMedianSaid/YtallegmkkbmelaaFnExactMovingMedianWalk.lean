import Derived.Test.YtallegmkkbmelaaCMmd
import Derived.Test.YtallegmkkbmelaaCLaw
namespace Go.Proofs.Ytallegmkkbmelaa.fnExactMovingMedian
open Go.RowKit Ieee
set_option linter.unusedVariables false
set_option maxHeartbeats 2000000 in
theorem walk (a0 : Option Addr) (len0 cap0 : Nat) (z0 : List Nat) (a1 : Int) (w : World) (w0 : FRow w a0 len0 cap0 z0) (w1 : (Lit.int .i64 a1).wf = true) :
    Calls Try.prog 5 #[.slice a0 len0 cap0, .int .i64 a1] w fun e w' => e = .returned (.bool true) ∧ Below w.heap.size w w' := by
  clear w1
  obtain ⟨hs0, hlc0, hcm0, _⟩ := w0
  unfold maxLen at hcm0
  have H0 := Lib.hid hs0
  clear hs0
  by_cases hm0 : len0 ≤ 1048576
  rotate_left
  · clear H0
    go_enter Try.func5, Try.ntmps5
    go_wp2_with fail
    all_goals (go_ret; exact ⟨rfl, Below.refl _ _⟩)
  have hX : (winR med32 z0 a1).length ≤ 1048576 := mmdR_len z0 a1
  have G := Lib.hid (Below.refl w.heap.size w)
  go_enter Try.func5, Try.ntmps5
  go_wp2_with fail
  refine (toFt_any _ _ _ _ _ (FSl.below H0.out G.out) hm0).mono ?_
  rintro e u1 ⟨rfl, t, b, q1⟩
  replace G := Lib.hid (G.out.trans (b.mono G.out.size))
  have S0 := Lib.hid t
  have hsS0 : w.heap.size < u1.heap.size := q1
  clear t b q1
  go_wp2_with fail
  refine (specMmd_any _ _ _ _ _ _ S0.out.sl hm0 (Nat.le_refl _) (by omega)).mono ?_
  intro e u2 hR
  obtain ⟨AR, cR, dR, rR, rfl, t, hc, q2, b⟩ := hR.res
  replace S0 := Lib.hid (S0.out.below b)
  replace G := Lib.hid (G.out.trans (b.mono G.out.size))
  have R := Lib.hid t
  have CR := Lib.hid hc
  have hdR : u1.heap.size ≤ dR := q2
  have hzR : u1.heap.size ≤ u2.heap.size := b.size
  have hlR : 0 < (winR med32 z0 a1).length → dR < u2.heap.size := t.lt_
  clear hR t hc b q2
  go_wp2_with fail
  refine (toFt_any _ _ _ _ _ (FSl.below H0.out G.out) hm0).mono ?_
  rintro e u3 ⟨rfl, t, b, q3⟩
  replace S0 := Lib.hid (S0.out.below b)
  replace R := Lib.hid (R.out.below b)
  replace G := Lib.hid (G.out.trans (b.mono G.out.size))
  have X0 := Lib.hid t
  have hsX0 : u2.heap.size < u3.heap.size := q3
  clear t b q3
  clear S0
  go_wp2_with fail
  refine (implMmd_any _ _ _ _ _ _ X0.out.sl hm0 (Nat.le_refl _) (by omega)).mono ?_
  intro e u4 hR
  obtain ⟨AQ, cQ, dQ, rQ, rfl, t, hc, q4, b⟩ := hR.res
  replace R := Lib.hid (R.out.below b)
  replace X0 := Lib.hid (X0.out.below b)
  replace G := Lib.hid (G.out.trans (b.mono G.out.size))
  have Q := Lib.hid t
  have CQ := Lib.hid hc
  have hdQ : u3.heap.size ≤ dQ := q4
  have hzQ : u3.heap.size ≤ u4.heap.size := b.size
  have hlQ : 0 < (winR med32 z0 a1).length → dQ < u4.heap.size := t.lt_
  clear hR t hc b q4
  go_wp2_with fail
  refine (eqF_any _ _ _ _ _ _ _ _ Q.out.sl R.out.sl hX (same_cn CQ.out CR.out)).mono ?_
  rintro e w' ⟨n5, rfl, rfl⟩
  replace R := Lib.hid (R.out.drewN n5)
  replace X0 := Lib.hid (X0.out.drewN n5)
  replace Q := Lib.hid (Q.out.drewN n5)
  replace G := Lib.hid (below_drewN G.out n5)
  go_wp2_with fail
  refine (toFt_any _ _ _ _ _ (FSl.below H0.out G.out) hm0).mono ?_
  rintro e u6 ⟨rfl, t, b, q6⟩
  replace R := Lib.hid (R.out.below b)
  replace X0 := Lib.hid (X0.out.below b)
  replace Q := Lib.hid (Q.out.below b)
  replace G := Lib.hid (G.out.trans (b.mono G.out.size))
  have Y0 := Lib.hid t
  have hsY0 : u4.heap.size < u6.heap.size := q6
  clear t b q6
  go_wp2_with fail
  refine (eqF_any _ _ _ _ _ _ _ _ X0.out.sl Y0.out.sl hm0 (fun _ _ => rfl)).mono ?_
  rintro e w' ⟨n7, rfl, rfl⟩
  replace R := Lib.hid (R.out.drewN n7)
  replace X0 := Lib.hid (X0.out.drewN n7)
  replace Q := Lib.hid (Q.out.drewN n7)
  replace Y0 := Lib.hid (Y0.out.drewN n7)
  replace G := Lib.hid (below_drewN G.out n7)
  clear Y0
  go_wp2_with fail
  refine (markt_any 1 X0.out hm0 (by omega)).mono ?_
  rintro e u8 ⟨rfl, o, m⟩
  replace R := Lib.hid (R.out.only o (fun h0 => by (try have := hlR h0); (try have := hlQ h0); omega))
  replace Q := Lib.hid (Q.out.only o (fun h0 => by (try have := hlR h0); (try have := hlQ h0); omega))
  replace G := Lib.hid (G.out.trans (o.below (by have := G.out.size; omega)))
  replace X0 := Lib.hid m
  have hb8 : u8.heap.size = u6.heap.size := o.size
  have he8 : u6.heap.size ≤ u8.heap.size := Nat.le_of_eq hb8.symm
  clear o m hb8
  go_wp2_with fail
  refine (eqF_any _ _ _ _ _ _ _ _ Q.out.sl R.out.sl hX (same_cn CQ.out CR.out)).mono ?_
  rintro e w' ⟨n9, rfl, rfl⟩
  replace R := Lib.hid (R.out.drewN n9)
  replace X0 := Lib.hid (X0.out.drewN n9)
  replace Q := Lib.hid (Q.out.drewN n9)
  replace G := Lib.hid (below_drewN G.out n9)
  go_wp2_with fail
  refine (markt_any 1 Q.out hX (by omega)).mono ?_
  rintro e u10 ⟨rfl, o, m⟩
  replace R := Lib.hid (R.out.only o (fun h0 => by (try have := hlR h0); (try have := hlQ h0); omega))
  replace X0 := Lib.hid (X0.out.only o (fun h0 => by (try have := hlR h0); (try have := hlQ h0); omega))
  replace G := Lib.hid (G.out.trans (o.below (by have := G.out.size; omega)))
  replace Q := Lib.hid m
  have hb10 : u10.heap.size = u8.heap.size := o.size
  have he10 : u8.heap.size ≤ u10.heap.size := Nat.le_of_eq hb10.symm
  clear o m hb10
  go_wp2_with fail
  refine (heldt_any 1 Q.out hX (by omega)).mono ?_
  rintro e w' ⟨rfl, rfl⟩
  go_wp2_with fail
  refine (toFt_any _ _ _ _ _ (FSl.below H0.out G.out) hm0).mono ?_
  rintro e u11 ⟨rfl, t, b, q11⟩
  replace R := Lib.hid (R.out.below b)
  replace X0 := Lib.hid (X0.out.below b)
  replace Q := Lib.hid (Q.out.below b)
  replace G := Lib.hid (G.out.trans (b.mono G.out.size))
  have V0 := Lib.hid t
  have hsV0 : u10.heap.size < u11.heap.size := q11
  clear t b q11
  go_wp2_with fail
  refine (implMmd_any _ _ _ _ _ _ V0.out.sl hm0 (Nat.le_refl _) (by omega)).mono ?_
  intro e u12 hR
  obtain ⟨AP, cP, dP, rP, rfl, t, hc, q12, b⟩ := hR.res
  replace R := Lib.hid (R.out.below b)
  replace X0 := Lib.hid (X0.out.below b)
  replace Q := Lib.hid (Q.out.below b)
  replace V0 := Lib.hid (V0.out.below b)
  replace G := Lib.hid (G.out.trans (b.mono G.out.size))
  have P := Lib.hid t
  have CP := Lib.hid hc
  have hdP : u11.heap.size ≤ dP := q12
  have hzP : u11.heap.size ≤ u12.heap.size := b.size
  have hlP : 0 < (winR med32 z0 a1).length → dP < u12.heap.size := t.lt_
  clear hR t hc b q12
  go_wp2_with fail
  refine (eqF_any _ _ _ _ _ _ _ _ P.out.sl R.out.sl hX (same_cn CP.out CR.out)).mono ?_
  rintro e w' ⟨n13, rfl, rfl⟩
  replace R := Lib.hid (R.out.drewN n13)
  replace X0 := Lib.hid (X0.out.drewN n13)
  replace Q := Lib.hid (Q.out.drewN n13)
  replace V0 := Lib.hid (V0.out.drewN n13)
  replace P := Lib.hid (P.out.drewN n13)
  replace G := Lib.hid (below_drewN G.out n13)
  go_wp2_with fail
  refine (heldt_any 1 Q.out hX (by omega)).mono ?_
  rintro e w' ⟨rfl, rfl⟩
  go_wp2
  go_ret
  exact ⟨rfl, G.out⟩
end Go.Proofs.Ytallegmkkbmelaa.fnExactMovingMedian
