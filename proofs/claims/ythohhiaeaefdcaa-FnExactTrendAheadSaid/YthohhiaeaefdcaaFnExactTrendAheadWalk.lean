import Derived.Test.YthohhiaeaefdcaaTah
import Derived.Test.YthohhiaeaefdcaaCLaw
namespace Go.Proofs.Ythohhiaeaefdcaa.fnExactTrendAhead
open Go.RowKit Ieee
set_option linter.unusedVariables false
set_option maxHeartbeats 2000000 in
set_option maxRecDepth 100000 in
theorem walk (x0_0 x0_1 x0_2 x0_3 x0_4 x0_5 x0_6 x0_7 : Nat) (a1 : Int) (w : World) (w1 : (Lit.int .i64 a1).wf = true) :
    Calls Try.prog 9 #[.agg #[.float .f32 x0_0, .float .f32 x0_1, .float .f32 x0_2, .float .f32 x0_3, .float .f32 x0_4, .float .f32 x0_5, .float .f32 x0_6, .float .f32 x0_7], .int .i64 a1] w fun e w' => e = .returned (.bool true) ∧ Below w.heap.size w w' := by
  clear w1
  have hX : (taR x0_0 x0_1 x0_2 x0_3 x0_4 x0_5 x0_6 x0_7 a1).length ≤ 1048576 := taR_len ..
  have G := Lib.hid ((Below.refl w.heap.size w).alloc (Nat.le_refl _) (.cells #[.float .f32 x0_0, .float .f32 x0_1, .float .f32 x0_2, .float .f32 x0_3, .float .f32 x0_4, .float .f32 x0_5, .float .f32 x0_6, .float .f32 x0_7] 37))
  have B := Lib.hid (NumsIn.new w [x0_0, x0_1, x0_2, x0_3, x0_4, x0_5, x0_6, x0_7] 37)
  go_enter Try.func9, Try.ntmps9
  obtain ⟨k0, k1, k2, k3, k4, k5, k6, k7⟩ := B.out.c8
  go_wp2_with fail
  refine (totn_any _ _ _ _ _ _ _ _ _).mono ?_
  rintro e u1 ⟨rfl, b⟩
  clear k0 k1 k2 k3 k4 k5 k6 k7
  have hz1 := b.size
  replace B := Lib.hid (B.out.below b)
  replace G := Lib.hid (G.out.trans (b.mono G.out.size))
  clear b
  have hBR := B.out.lt
  go_wp2_with fail
  refine (specTa_any _ _ _ _ _ _ _ _ _ _).mono ?_
  intro e u2 hR
  obtain ⟨AR, cR, dR, rR, rfl, t, hc, q, b⟩ := hR.res
  have hz2 := b.size
  replace B := Lib.hid (B.out.below b)
  replace G := Lib.hid (G.out.trans (b.mono G.out.size))
  clear b
  have R := Lib.hid t
  have CR := Lib.hid hc
  have hlR : 0 < (taR x0_0 x0_1 x0_2 x0_3 x0_4 x0_5 x0_6 x0_7 a1).length → dR < u2.heap.size := t.lt_
  have hqqR := q
  clear hR t hc q
  obtain ⟨k0, k1, k2, k3, k4, k5, k6, k7⟩ := B.out.c8
  go_wp2_with fail
  refine (totn_any _ _ _ _ _ _ _ _ _).mono ?_
  rintro e u3 ⟨rfl, b⟩
  clear k0 k1 k2 k3 k4 k5 k6 k7
  have hz3 := b.size
  replace B := Lib.hid (B.out.below b)
  replace R := Lib.hid (R.out.below b)
  replace G := Lib.hid (G.out.trans (b.mono G.out.size))
  clear b
  have hBQ := B.out.lt
  go_wp2_with fail
  refine (implTa_any _ _ _ _ _ _ _ _ _ _).mono ?_
  intro e u4 hR
  obtain ⟨AQ, cQ, dQ, rQ, rfl, t, hc, q, b⟩ := hR.res
  have hz4 := b.size
  replace B := Lib.hid (B.out.below b)
  replace R := Lib.hid (R.out.below b)
  replace G := Lib.hid (G.out.trans (b.mono G.out.size))
  clear b
  have Q := Lib.hid t
  have CQ := Lib.hid hc
  have hlQ : 0 < (taR x0_0 x0_1 x0_2 x0_3 x0_4 x0_5 x0_6 x0_7 a1).length → dQ < u4.heap.size := t.lt_
  have hqqQ := q
  clear hR t hc q
  go_wp2_with fail
  refine (eqF_any _ _ _ _ _ _ _ _ Q.out.sl R.out.sl hX (same_cn CQ.out CR.out)).mono ?_
  rintro e w' ⟨n5, rfl, rfl⟩
  replace B := Lib.hid (B.out.drewN n5)
  replace R := Lib.hid (R.out.drewN n5)
  replace Q := Lib.hid (Q.out.drewN n5)
  replace G := Lib.hid (below_drewN G.out n5)
  go_wp2_with fail
  refine (markt_any 1 Q.out hX (by omega)).mono ?_
  rintro e u9 ⟨rfl, o, m⟩
  have hsz := G.out.size
  have hBl := B.out.lt
  have HNE : w.heap.size ≠ dQ := by omega
  have hwQ : w.heap.size ≤ dQ := by omega
  replace R := Lib.hid (R.out.only o (fun h0 => by have := hlR h0; have := hlQ h0; omega))
  replace B := Lib.hid (show NumsIn u9 w.heap.size [x0_0, x0_1, x0_2, x0_3, x0_4, x0_5, x0_6, x0_7] from ⟨by rw [o.size]; exact B.out.1, fun i hi => ⟨by rw [o.cell (p := ⟨w.heap.size, i, none⟩) HNE]; exact (B.out.2 i hi).1, by rw [o.frozen (p := ⟨w.heap.size, i, none⟩) HNE]; exact (B.out.2 i hi).2⟩⟩)
  replace G := Lib.hid (G.out.trans (o.below (by omega)))
  replace Q := Lib.hid m
  clear o m
  go_wp2_with fail
  refine (heldt_any 1 Q.out hX (by omega)).mono ?_
  rintro e w' ⟨rfl, rfl⟩
  obtain ⟨k0, k1, k2, k3, k4, k5, k6, k7⟩ := B.out.c8
  go_wp2_with fail
  refine (totn_any _ _ _ _ _ _ _ _ _).mono ?_
  rintro e u6 ⟨rfl, b⟩
  clear k0 k1 k2 k3 k4 k5 k6 k7
  have hz5 := b.size
  replace B := Lib.hid (B.out.below b)
  replace R := Lib.hid (R.out.below b)
  replace Q := Lib.hid (Q.out.below b)
  replace G := Lib.hid (G.out.trans (b.mono G.out.size))
  clear b
  have hBP := B.out.lt
  go_wp2_with fail
  refine (implTa_any _ _ _ _ _ _ _ _ _ _).mono ?_
  intro e u7 hR
  obtain ⟨AP, cP, dP, rP, rfl, t, hc, q, b⟩ := hR.res
  have hz6 := b.size
  replace B := Lib.hid (B.out.below b)
  replace R := Lib.hid (R.out.below b)
  replace Q := Lib.hid (Q.out.below b)
  replace G := Lib.hid (G.out.trans (b.mono G.out.size))
  clear b
  have P := Lib.hid t
  have CP := Lib.hid hc
  have hlP : 0 < (taR x0_0 x0_1 x0_2 x0_3 x0_4 x0_5 x0_6 x0_7 a1).length → dP < u7.heap.size := t.lt_
  have hqqP := q
  clear hR t hc q
  go_wp2_with fail
  refine (eqF_any _ _ _ _ _ _ _ _ P.out.sl R.out.sl hX (same_cn CP.out CR.out)).mono ?_
  rintro e w' ⟨n8, rfl, rfl⟩
  replace B := Lib.hid (B.out.drewN n8)
  replace R := Lib.hid (R.out.drewN n8)
  replace Q := Lib.hid (Q.out.drewN n8)
  replace P := Lib.hid (P.out.drewN n8)
  replace G := Lib.hid (below_drewN G.out n8)
  go_wp2_with fail
  refine (heldt_any 1 Q.out hX (by omega)).mono ?_
  rintro e w' ⟨rfl, rfl⟩
  go_wp2
  go_ret
  exact ⟨rfl, G.out⟩
end Go.Proofs.Ythohhiaeaefdcaa.fnExactTrendAhead
