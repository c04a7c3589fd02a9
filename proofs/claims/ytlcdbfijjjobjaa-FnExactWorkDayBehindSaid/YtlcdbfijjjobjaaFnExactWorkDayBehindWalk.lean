import Derived.Test.YtlcdbfijjjobjaaCBen
import Derived.Test.YtlcdbfijjjobjaaCIcp
namespace Go.Proofs.Ytlcdbfijjjobjaa.fnExactWorkDayBehind
open Go.RowKit
set_option linter.unusedVariables false
theorem walk (a0 : Int) (a1 : Int) (a2 : Option Addr) (len2 cap2 : Nat) (z2 : List Int) (w : World) (w0 : (Lit.int .i64 a0).wf = true) (w1 : (Lit.int .i64 a1).wf = true) (w2 : IRow w a2 len2 cap2 z2) :
    Calls Try.prog 12 #[.int .i64 a0, .int .i64 a1, .slice a2 len2 cap2] w fun e w' => e = .returned (.bool true) ∧ Below w.heap.size w w' := by
  obtain ⟨hs, hlc, hcm, _⟩ := w2
  clear w0 w1
  unfold maxLen at hcm
  have H := Lib.hid hs
  clear hs
  by_cases hm : len2 ≤ 1048576
  · cases hB : behB z2 a0 a1
    · have HBB := Lib.hid hB
      clear hB
      go_enter Try.func12, Try.ntmps12
      go_wp2_with fail
      refine (toI_any _ _ _ _ _ H.out hm).mono ?_
      rintro e u1 ⟨rfl, f1, b1⟩
      have F1 := Lib.hid f1
      have B1 := Lib.hid b1
      clear f1 b1
      go_wp2_with fail
      refine (specBeh_no _ _ _ _ _ _ _ F1.out hm HBB.out).mono ?_
      unfold RetIV RetI
      rintro e w' ⟨n1, rfl, rfl⟩
      go_wp2_with fail
      refine (toI_any _ _ _ _ _ (ISl.drewN (ISl.below H.out B1.out) n1) hm).mono ?_
      rintro e u2 ⟨rfl, f2, b2⟩
      have F2 := Lib.hid f2
      have B2 := Lib.hid (B1.out.trans ((below_drewN (Below.refl _ _) n1).trans (b2.mono (show w.heap.size ≤ u1.heap.size from B1.out.size))))
      clear f2 b2
      go_wp2_with fail
      refine (implBeh_no _ _ _ _ _ _ _ F2.out hm HBB.out).mono ?_
      unfold RetIV RetI
      rintro e w' ⟨n2, rfl, rfl⟩
      go_wp2_with fail
      refine (toI_any _ _ _ _ _ (ISl.drewN (ISl.below H.out B2.out) _) hm).mono ?_
      rintro e u3 ⟨rfl, f3, b3⟩
      have F3 := Lib.hid f3
      have F4 := Lib.hid (ISl.below (ISl.drewN F2.out _) b3)
      have B3 := Lib.hid (B2.out.trans ((below_drewN (Below.refl _ _) _).trans (b3.mono (show w.heap.size ≤ u2.heap.size from B2.out.size))))
      clear f3 b3
      go_wp2_with fail
      refine (eqI_any _ _ _ _ _ _ _ F4.out F3.out hm).mono ?_
      rintro e w' ⟨n4, rfl, rfl⟩
      go_wp2
      go_ret
      exact ⟨rfl, below_drewN B3.out _⟩
    · have HBB := Lib.hid hB
      clear hB
      go_enter Try.func12, Try.ntmps12
      go_wp2_with fail
      refine (toI_any _ _ _ _ _ H.out hm).mono ?_
      rintro e u1 ⟨rfl, f1, b1⟩
      have F1 := Lib.hid f1
      have B1 := Lib.hid b1
      clear f1 b1
      go_wp2_with fail
      refine (specBeh_yes _ _ _ _ _ _ _ F1.out hm HBB.out).mono ?_
      unfold RetB RetI
      rintro e w' ⟨x, ok, n1, rfl, hp, rfl⟩
      have HP := Lib.hid hp
      clear hp
      go_wp2_with fail
      refine (toI_any _ _ _ _ _ (ISl.drewN (ISl.below H.out B1.out) n1) hm).mono ?_
      rintro e u2 ⟨rfl, f2, b2⟩
      have F2 := Lib.hid f2
      have B2 := Lib.hid (B1.out.trans ((below_drewN (Below.refl _ _) n1).trans (b2.mono (show w.heap.size ≤ u1.heap.size from B1.out.size))))
      clear f2 b2
      go_wp2_with fail
      refine (implBeh_yes _ _ _ _ _ _ _ F2.out hm HBB.out).mono ?_
      unfold RetB RetI
      rintro e w' ⟨x', ok', n2, rfl, hp, rfl⟩
      obtain ⟨rfl, rfl⟩ := behP_one HP.out hp
      clear hp
      go_wp2_with fail
      refine (toI_any _ _ _ _ _ (ISl.drewN (ISl.below H.out B2.out) _) hm).mono ?_
      rintro e u3 ⟨rfl, f3, b3⟩
      have F3 := Lib.hid f3
      have F4 := Lib.hid (ISl.below (ISl.drewN F2.out _) b3)
      have B3 := Lib.hid (B2.out.trans ((below_drewN (Below.refl _ _) _).trans (b3.mono (show w.heap.size ≤ u2.heap.size from B2.out.size))))
      clear f3 b3
      go_wp2_with fail
      refine (eqI_any _ _ _ _ _ _ _ F4.out F3.out hm).mono ?_
      rintro e w' ⟨n4, rfl, rfl⟩
      go_wp2
      go_ret
      exact ⟨rfl, below_drewN B3.out _⟩
  · go_enter Try.func12, Try.ntmps12
    go_wp2_with fail
    all_goals (go_ret; exact ⟨rfl, Below.refl _ _⟩)
end Go.Proofs.Ytlcdbfijjjobjaa.fnExactWorkDayBehind
