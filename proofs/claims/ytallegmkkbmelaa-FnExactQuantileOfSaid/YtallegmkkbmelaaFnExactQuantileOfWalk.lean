import Derived.Test.YtallegmkkbmelaaCQua
import Derived.Test.YtallegmkkbmelaaCEqf
namespace Go.Proofs.Ytallegmkkbmelaa.fnExactQuantileOf
open Go.RowKit Ieee
set_option linter.unusedVariables false
theorem walk (a0 : Option Addr) (len0 cap0 : Nat) (z0 : List Nat) (a1 : Nat) (w : World) (w0 : FRow w a0 len0 cap0 z0) (w1 : (Lit.float .f32 a1).wf = true) :
    Calls Try.prog 4 #[.slice a0 len0 cap0, .float .f32 a1] w fun e w' => e = .returned (.bool true) ∧ Below w.heap.size w w' := by
  obtain ⟨hs, hlc, hcm, _⟩ := w0
  unfold maxLen at hcm
  clear w1
  have H := Lib.hid hs
  clear hs
  by_cases hm : len0 ≤ 1048576
  · go_enter Try.func4, Try.ntmps4
    go_wp2_with fail
    refine (toF_any _ _ _ _ _ H.out hm).mono ?_
    rintro e w1 ⟨rfl, f1, b1⟩
    have F1 := Lib.hid f1
    have B1 := Lib.hid b1
    clear f1 b1
    go_wp2_with fail
    refine (specQua_any _ _ _ _ _ _ F1.out hm).mono ?_
    rintro e v1 ⟨r1, hr1, rfl, b1⟩
    have R1 := Lib.hid hr1
    have C1 := Lib.hid (B1.out.trans (b1.mono (show w.heap.size ≤ w1.heap.size from B1.out.size)))
    clear hr1 b1
    go_wp2_with fail
    refine (toF_any _ _ _ _ _ (FSl.below H.out C1.out) hm).mono ?_
    rintro e w2 ⟨rfl, f2, b2⟩
    have F2 := Lib.hid f2
    have B2 := Lib.hid (C1.out.trans (b2.mono (show w.heap.size ≤ v1.heap.size from C1.out.size)))
    clear f2 b2
    go_wp2_with fail
    refine (implQua_any _ _ _ _ _ _ F2.out hm).mono ?_
    rintro e v2 ⟨r2, hr2, rfl, b2⟩
    have R2 := Lib.hid hr2
    have G2 := Lib.hid (FSl.below F2.out b2)
    have C2 := Lib.hid (B2.out.trans (b2.mono (show w.heap.size ≤ w2.heap.size from B2.out.size)))
    clear hr2 b2 F2
    go_wp2_with (go_at_call 13; refine (sameFloat_true _ _ _ (by rw [cn_wideR, cn_wideR, R1.out, R2.out])).mono ?_; rintro e w' ⟨n, rfl, rfl⟩)
    refine (toF_any _ _ _ _ _ (FSl.drewN (FSl.below H.out C2.out) _) hm).mono ?_
    rintro e w3 ⟨rfl, f3, b3⟩
    have F3 := Lib.hid f3
    have F4 := Lib.hid (FSl.below (FSl.drewN G2.out _) b3)
    have B3 := Lib.hid (C2.out.trans ((below_drewN (Below.refl _ _) _).trans (b3.mono (show w.heap.size ≤ v2.heap.size from C2.out.size))))
    clear f3 b3
    go_wp2_with fail
    refine (eqF_any _ _ _ _ _ _ _ _ F4.out F3.out hm (fun _ _ => rfl)).mono ?_
    rintro e w' ⟨n4, rfl, rfl⟩
    go_wp2
    go_ret
    exact ⟨rfl, below_drewN B3.out _⟩
  · go_enter Try.func4, Try.ntmps4
    go_wp2_with fail
    all_goals (go_ret; exact ⟨rfl, Below.refl _ _⟩)
end Go.Proofs.Ytallegmkkbmelaa.fnExactQuantileOf
