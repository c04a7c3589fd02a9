import Derived.Test.YthohhiaeaefdcaaTny
namespace Go.Proofs.Ythohhiaeaefdcaa.fnExactTrendStep
open Go.RowKit Ieee
set_option linter.unusedVariables false
set_option maxHeartbeats 2000000 in
set_option maxRecDepth 100000 in
theorem walk (x0_0 x0_1 x0_2 x0_3 x0_4 x0_5 x0_6 x0_7 : Nat) (a1 : Nat) (a2 : Bool) (w : World) (w1 : (Lit.float .f32 a1).wf = true) :
    Calls Try.prog 8 #[.agg #[.float .f32 x0_0, .float .f32 x0_1, .float .f32 x0_2, .float .f32 x0_3, .float .f32 x0_4, .float .f32 x0_5, .float .f32 x0_6, .float .f32 x0_7], .float .f32 a1, .bool a2] w fun e w' => e = .returned (.bool true) ∧ Below w.heap.size w w' := by
  clear w1
  have G := Lib.hid ((Below.refl w.heap.size w).alloc (Nat.le_refl _) (.cells #[.float .f32 x0_0, .float .f32 x0_1, .float .f32 x0_2, .float .f32 x0_3, .float .f32 x0_4, .float .f32 x0_5, .float .f32 x0_6, .float .f32 x0_7] 37))
  have B := Lib.hid (NumsIn.new w [x0_0, x0_1, x0_2, x0_3, x0_4, x0_5, x0_6, x0_7] 37)
  go_enter Try.func8, Try.ntmps8
  obtain ⟨k0, k1, k2, k3, k4, k5, k6, k7⟩ := B.out.c8
  go_wp2_with fail
  refine (totn_any _ _ _ _ _ _ _ _ _).mono ?_
  rintro e u0 ⟨rfl, b⟩
  clear k0 k1 k2 k3 k4 k5 k6 k7
  replace B := Lib.hid (B.out.below b)
  replace G := Lib.hid (G.out.trans (b.mono G.out.size))
  clear b
  go_wp2_with fail
  refine (spTns_any _ _ _ _ _ _ _ _ _ _ _).mono ?_
  rintro e u1 ⟨r0, r1, r2, r3, r4, r5, r6, r7, zR, hr0, hr1, hr2, hr3, hr4, hr5, hr6, hr7, hzR, rfl, b⟩
  replace B := Lib.hid (B.out.below b)
  replace G := Lib.hid (G.out.trans (b.mono G.out.size))
  clear b
  have NR := Lib.hid (NumsIn.new u1 [r0, r1, r2, r3, r4, r5, r6, r7] 39)
  have ba := (Below.refl u1.heap.size u1).alloc (Nat.le_refl _) (.cells #[.float .f32 r0, .float .f32 r1, .float .f32 r2, .float .f32 r3, .float .f32 r4, .float .f32 r5, .float .f32 r6, .float .f32 r7] 39)
  replace B := Lib.hid (B.out.below ba)
  replace G := Lib.hid (G.out.trans (ba.mono G.out.size))
  clear ba
  obtain ⟨k0, k1, k2, k3, k4, k5, k6, k7⟩ := B.out.c8
  go_wp2_with fail
  refine (totn_any _ _ _ _ _ _ _ _ _).mono ?_
  rintro e u2 ⟨rfl, b⟩
  clear k0 k1 k2 k3 k4 k5 k6 k7
  replace B := Lib.hid (B.out.below b)
  replace NR := Lib.hid (NR.out.below b)
  replace G := Lib.hid (G.out.trans (b.mono G.out.size))
  clear b
  go_wp2_with fail
  refine (imTns_any _ _ _ _ _ _ _ _ _ _ _).mono ?_
  rintro e u3 ⟨q0, q1, q2, q3, q4, q5, q6, q7, zQ, hq0, hq1, hq2, hq3, hq4, hq5, hq6, hq7, hzQ, rfl, b⟩
  replace B := Lib.hid (B.out.below b)
  replace NR := Lib.hid (NR.out.below b)
  replace G := Lib.hid (G.out.trans (b.mono G.out.size))
  clear b
  have NQ := Lib.hid (NumsIn.new u3 [q0, q1, q2, q3, q4, q5, q6, q7] 39)
  have ba := (Below.refl u3.heap.size u3).alloc (Nat.le_refl _) (.cells #[.float .f32 q0, .float .f32 q1, .float .f32 q2, .float .f32 q3, .float .f32 q4, .float .f32 q5, .float .f32 q6, .float .f32 q7] 39)
  replace B := Lib.hid (B.out.below ba)
  replace NR := Lib.hid (NR.out.below ba)
  replace G := Lib.hid (G.out.trans (ba.mono G.out.size))
  clear ba
  obtain ⟨m0, m1, m2, m3, m4, m5, m6, m7⟩ := NR.out.c8
  obtain ⟨n0, n1, n2, n3, n4, n5, n6, n7⟩ := NQ.out.c8
  go_wp2_with fail
  refine (eqtn_any _ _ _ _ _ _ _ _ _ _ _ _ _ _ _ _ _ (hq0.trans hr0.symm) (hq1.trans hr1.symm) (hq2.trans hr2.symm) (hq3.trans hr3.symm) (hq4.trans hr4.symm) (hq5.trans hr5.symm) (hq6.trans hr6.symm) (hq7.trans hr7.symm)).mono ?_
  rintro e u4 ⟨rfl, b⟩
  clear m0 m1 m2 m3 m4 m5 m6 m7
  clear n0 n1 n2 n3 n4 n5 n6 n7
  replace G := Lib.hid (G.out.trans (b.mono G.out.size))
  clear b
  go_wp2_with fail
  refine (sameFloat_true _ _ _ (by rw [cn_wideR, cn_wideR, hzQ, hzR])).mono ?_
  rintro e w' ⟨n, rfl, rfl⟩
  go_wp2
  go_ret
  exact ⟨rfl, below_drewN G.out _⟩
end Go.Proofs.Ythohhiaeaefdcaa.fnExactTrendStep
