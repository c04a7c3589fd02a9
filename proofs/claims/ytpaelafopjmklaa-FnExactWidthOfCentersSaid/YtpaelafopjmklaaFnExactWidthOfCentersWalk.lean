import Derived.Test.YtpaelafopjmklaaWid
import Derived.Test.YtpaelafopjmklaaCEqf
import Derived.Test.YtpaelafopjmklaaRow
import Derived.Test.YtpaelafopjmklaaIlw
namespace Go.Proofs.Ytpaelafopjmklaa.fnExactWidthOfCenters
open Go.RowKit Ieee
set_option linter.unusedVariables false
set_option maxHeartbeats 4000000 in
set_option maxRecDepth 100000 in
theorem walk (a0 : Option Addr) (len0 cap0 : Nat) (L0 : List FRw) (a1 : Option Addr) (len1 cap1 : Nat) (z1 : List Int) (w : World) (w0 : RRow w a0 len0 cap0 L0) (w1 : IRow w a1 len1 cap1 z1) :
    Calls Try.prog 13 #[.slice a0 len0 cap0, .slice a1 len1 cap1] w fun e w' => e = .returned (.bool true) ∧ Below w.heap.size w w' := by
  obtain ⟨hs1, hlc1, hcm1, hb1⟩ := w1
  unfold maxLen at hcm1
  have H1 := Lib.hid hs1
  clear hs1
  by_cases hm1 : len1 ≤ 1048576
  rotate_left
  · clear H1 w0
    go_enter Try.func13, Try.ntmps13
    go_wp2_with fail
    all_goals (go_ret; exact ⟨rfl, Below.refl _ _⟩)
  have hrb0 := w0.2.1
  have hrc0 := w0.2.2.1
  unfold maxLen at hrc0
  have hrl0 : ∀ j, j < len0 → (L0.getD j FRw.none).len ≤ 9223372036854775807 := fun j hj => by have h1 := (w0.2.2.2 j hj).2.1; have h2 := (w0.2.2.2 j hj).2.2.1; unfold maxLen at h2; omega
  have W0 := Lib.hid w0
  clear w0
  by_cases ht0 : len0 + tot L0 len0 ≤ 1048576
  rotate_left
  · go_enter Try.func13, Try.ntmps13
    go_wp2_with fail
    refine (rsz_any _ _ _ _ 1048576 _ W0.out.1 (by omega) (by omega) hrl0 (-1) (by rw [if_neg ht0])).mono ?_
    rintro e w' ⟨rfl, rfl⟩
    go_wp2_with fail
    go_ret
    exact ⟨rfl, Below.refl _ _⟩
  have hm0 : len0 ≤ 1048576 := by omega
  have hT0 := Lib.hid ht0
  have hq0 : ∀ j, j < len0 → (L0.getD j FRw.none).len ≤ 1048576 := fun j hj => by have := len_tot L0 hj; omega
  have HQ0 := Lib.hid hq0
  have H0 := Lib.hid (W0.out.rsl ht0)
  have HL0 := Lib.hid W0.out.1.1
  obtain ⟨T0, hTv0⟩ : ∃ t, tot L0 len0 = t := ⟨_, rfl⟩
  have HT0 := Lib.hid hTv0
  rw [hTv0] at ht0
  obtain ⟨v0, hv0⟩ : ∃ v : Int, v = if len0 + tot L0 len0 ≤ 1048576 then ((1048576 : Nat) : Int) - len0 - tot L0 len0 else -1 := ⟨_, rfl⟩
  have hv0_0 : decide (v0 < 0) = false := decide_eq_false (by rw [hv0, if_pos hT0.out, hTv0]; omega)
  have HV0 := Lib.hid hv0
  clear hv0 hTv0 hq0
  have G := Lib.hid (Below.refl w.heap.size w)
  go_enter Try.func13, Try.ntmps13
  go_wp2_with fail
  refine (rsz_any _ _ _ _ 1048576 _ W0.out.1 (by omega) (by omega) hrl0 v0 HV0.out).mono ?_
  rintro e w' ⟨rfl, rfl⟩
  clear hrl0
  go_wp2_with fail
  refine (rto_any _ _ _ _ _ (RSl.below H0.out G.out) hm0).mono ?_
  rintro e u1 ⟨bS0, rfl, t, b, q1⟩
  replace G := Lib.hid (G.out.trans (b.mono G.out.size))
  have S0 := Lib.hid t
  have hsS0 : w.heap.size < u1.heap.size := q1
  clear t b q1
  go_wp2_with fail
  refine (toI_any _ _ _ _ _ (ISl.below H1.out G.out) hm1).mono ?_
  rintro e u2 ⟨rfl, t, b⟩
  replace S0 := Lib.hid (S0.out.below b)
  replace G := Lib.hid (G.out.trans (b.mono G.out.size))
  have S1 := Lib.hid t
  clear t b
  go_wp2_with fail
  refine (spWid_any _ _ _ _ _ _ _ _ _ (S0.out.sl HQ0.out) S1.out hm0 hm1 (Nat.le_refl _) hm0).mono ?_
  rintro e u3 ⟨mR0, hm_0, rfl, b⟩
  try rw [zz_new HL0.out]
  try rw [zz_new HL0.out] at hm_0
  have MR0 := Lib.hid hm_0
  clear hm_0
  replace S0 := Lib.hid (S0.out.below b)
  replace S1 := Lib.hid (ISl.below S1.out b)
  replace G := Lib.hid (G.out.trans (b.mono G.out.size))
  have hzR : u2.heap.size ≤ u3.heap.size := b.size
  clear b
  clear S0 S1
  go_wp2_with fail
  refine (rto_any _ _ _ _ _ (RSl.below H0.out G.out) hm0).mono ?_
  rintro e u4 ⟨bX0, rfl, t, b, q4⟩
  replace G := Lib.hid (G.out.trans (b.mono G.out.size))
  have X0 := Lib.hid t
  have hsX0 : u3.heap.size < u4.heap.size := q4
  clear t b q4
  go_wp2_with fail
  refine (toI_any _ _ _ _ _ (ISl.below H1.out G.out) hm1).mono ?_
  rintro e u5 ⟨rfl, t, b⟩
  replace X0 := Lib.hid (X0.out.below b)
  replace G := Lib.hid (G.out.trans (b.mono G.out.size))
  have X1 := Lib.hid t
  clear t b
  go_wp2_with fail
  refine (imWid_any _ _ _ _ _ _ _ _ _ (X0.out.sl HQ0.out) X1.out hm0 hm1 (Nat.le_refl _) hm0).mono ?_
  rintro e u6 ⟨mQ0, hm_0, rfl, b⟩
  try rw [zz_new HL0.out]
  try rw [zz_new HL0.out] at hm_0
  have MQ0 := Lib.hid hm_0
  clear hm_0
  replace X0 := Lib.hid (X0.out.below b)
  replace X1 := Lib.hid (ISl.below X1.out b)
  replace G := Lib.hid (G.out.trans (b.mono G.out.size))
  have hzQ : u5.heap.size ≤ u6.heap.size := b.size
  clear b
  go_wp2_with fail
  refine (sameFloat_true _ _ _ (by rw [cn_wideR, cn_wideR, MQ0.out, MR0.out])).mono ?_
  rintro e w' ⟨n7, rfl, rfl⟩
  go_wp2_with fail
  refine (rto_any _ _ _ _ _ (RSl.below H0.out (below_drewN G.out _)) hm0).mono ?_
  rintro e u8 ⟨bY0, rfl, t, b, q8⟩
  replace X0 := Lib.hid ((X0.out.drewN _).below b)
  replace X1 := Lib.hid (ISl.below (ISl.drewN X1.out _) b)
  replace G := Lib.hid ((below_drewN G.out _).trans (b.mono G.out.size))
  have Y0 := Lib.hid t
  have hsY0 : u6.heap.size < u8.heap.size := q8
  clear t b q8
  go_wp2_with fail
  refine (req_new X0.out Y0.out HQ0.out hm0).mono ?_
  rintro e w' ⟨n9, rfl, rfl⟩
  clear Y0
  go_wp2_with fail
  refine (toI_any _ _ _ _ _ (ISl.below H1.out (below_drewN G.out _)) hm1).mono ?_
  rintro e u10 ⟨rfl, t, b⟩
  replace X0 := Lib.hid ((X0.out.drewN _).below b)
  replace X1 := Lib.hid (ISl.below (ISl.drewN X1.out _) b)
  replace G := Lib.hid ((below_drewN G.out _).trans (b.mono G.out.size))
  have Y1 := Lib.hid t
  clear t b
  go_wp2_with fail
  refine (eqI_any _ _ _ _ _ _ _ X1.out Y1.out hm1).mono ?_
  rintro e w' ⟨n11, rfl, rfl⟩
  clear Y1
  go_wp2
  go_ret
  exact ⟨rfl, (below_drewN G.out _)⟩
end Go.Proofs.Ytpaelafopjmklaa.fnExactWidthOfCenters
