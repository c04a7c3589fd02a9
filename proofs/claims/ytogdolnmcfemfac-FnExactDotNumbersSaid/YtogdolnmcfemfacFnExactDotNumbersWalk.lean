import Derived.Test.YtogdolnmcfemfacCDot
import Derived.Test.YtogdolnmcfemfacCEqf
namespace Go.Proofs.Ytogdolnmcfemfac.fnExactDotNumbers
open Go.RowKit Ieee
set_option linter.unusedVariables false
theorem walk (a0 : Option Addr) (len0 cap0 : Nat) (z0 : List Nat) (a1 : Option Addr) (len1 cap1 : Nat) (z1 : List Nat) (w : World) (w0 : FRow w a0 len0 cap0 z0) (w1 : FRow w a1 len1 cap1 z1) :
    Calls Try.prog 4 #[.slice a0 len0 cap0, .slice a1 len1 cap1] w fun e w' => e = .returned (.bool true) ∧ Below w.heap.size w w' := by
  obtain ⟨hs, hlc, hcm, _⟩ := w0
  obtain ⟨hs1, hlc1, hcm1, _⟩ := w1
  unfold maxLen at hcm hcm1
  have H := Lib.hid hs
  have H1 := Lib.hid hs1
  clear hs hs1
  by_cases hm : len0 ≤ 1048576
  · by_cases hm1 : len1 ≤ 1048576
    · go_enter Try.func4, Try.ntmps4
      go_wp2_with fail
      refine (toF_any _ _ _ _ _ H.out hm).mono ?_
      rintro e u1 ⟨rfl, f1, b1⟩
      have F1 := Lib.hid f1
      have B1 := Lib.hid b1
      clear f1 b1
      go_wp2_with fail
      refine (toF_any _ _ _ _ _ (FSl.below H1.out B1.out) hm1).mono ?_
      rintro e u2 ⟨rfl, f2, b2⟩
      have F1' := Lib.hid (FSl.below F1.out b2)
      have F2 := Lib.hid f2
      have B2 := Lib.hid (B1.out.trans (b2.mono B1.out.size))
      clear f2 b2 F1
      go_wp2_with fail
      refine (specDotNumbers_any _ _ _ _ _ _ _ _ _ F1'.out F2.out hm hm1).mono ?_
      rintro e w' ⟨r1, n1, hr1, rfl, rfl⟩
      have R1 := Lib.hid hr1
      clear hr1 F1' F2
      go_wp2_with fail
      refine (toF_any _ _ _ _ _ (FSl.drewN (FSl.below H.out B2.out) n1) hm).mono ?_
      rintro e u3 ⟨rfl, f3, b3⟩
      have F3 := Lib.hid f3
      have B3 := Lib.hid (B2.out.trans ((below_drewN (Below.refl _ _) n1).trans (b3.mono (show w.heap.size ≤ u2.heap.size from B2.out.size))))
      clear f3 b3 B2
      go_wp2_with fail
      refine (toF_any _ _ _ _ _ (FSl.below H1.out B3.out) hm1).mono ?_
      rintro e u4 ⟨rfl, f4, b4⟩
      have F3' := Lib.hid (FSl.below F3.out b4)
      have F4 := Lib.hid f4
      have B4 := Lib.hid (B3.out.trans (b4.mono B3.out.size))
      clear f4 b4 F3 B3
      go_wp2_with fail
      refine (implDotNumbers_any _ _ _ _ _ _ _ _ _ F3'.out F4.out hm hm1).mono ?_
      rintro e w' ⟨r2, n2, hr2, rfl, rfl⟩
      have R2 := Lib.hid hr2
      clear hr2
      go_wp2_with (go_at_call 10; refine (sameFloat_true _ _ _ (by rw [cn_wideR, cn_wideR, R1.out, R2.out])).mono ?_; rintro e w' ⟨n, rfl, rfl⟩)
      refine (toF_any _ _ _ _ _ (FSl.drewN (FSl.below H.out B4.out) _) hm).mono ?_
      rintro e u5 ⟨rfl, f5, b5⟩
      have F5 := Lib.hid f5
      have G3 := Lib.hid (FSl.below (FSl.drewN F3'.out _) b5)
      have G4 := Lib.hid (FSl.below (FSl.drewN F4.out _) b5)
      have B5 := Lib.hid (B4.out.trans ((below_drewN (Below.refl _ _) _).trans (b5.mono (show w.heap.size ≤ u4.heap.size from B4.out.size))))
      clear f5 b5 F3' F4 B4
      go_wp2_with fail
      refine (eqF_any _ _ _ _ _ _ _ _ G3.out F5.out hm (fun _ _ => rfl)).mono ?_
      rintro e w' ⟨n4, rfl, rfl⟩
      go_wp2_with fail
      refine (toF_any _ _ _ _ _ (FSl.drewN (FSl.below H1.out B5.out) _) hm1).mono ?_
      rintro e u6 ⟨rfl, f6, b6⟩
      have F6 := Lib.hid f6
      have G5 := Lib.hid (FSl.below (FSl.drewN G4.out _) b6)
      have B6 := Lib.hid (B5.out.trans ((below_drewN (Below.refl _ _) _).trans (b6.mono (show w.heap.size ≤ u5.heap.size from B5.out.size))))
      clear f6 b6 B5 G3 G4
      go_wp2_with fail
      refine (eqF_any _ _ _ _ _ _ _ _ G5.out F6.out hm1 (fun _ _ => rfl)).mono ?_
      rintro e w' ⟨n5, rfl, rfl⟩
      go_wp2
      go_ret
      exact ⟨rfl, below_drewN B6.out _⟩
    · go_enter Try.func4, Try.ntmps4
      go_wp2_with fail
      all_goals (go_ret; exact ⟨rfl, Below.refl _ _⟩)
  · go_enter Try.func4, Try.ntmps4
    go_wp2_with fail
    all_goals (go_ret; exact ⟨rfl, Below.refl _ _⟩)
end Go.Proofs.Ytogdolnmcfemfac.fnExactDotNumbers
