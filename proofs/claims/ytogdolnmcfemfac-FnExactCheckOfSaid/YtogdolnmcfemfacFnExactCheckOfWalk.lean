import Derived.Test.YtogdolnmcfemfacCChk
namespace Go.Proofs.Ytogdolnmcfemfac.fnExactCheckOf
open Go.RowKit
set_option linter.unusedVariables false
theorem walk (a0 : Int) (a1 : ByteArray) (w : World) (w0 : (Lit.int .i64 a0).wf = true) (w1 : a1.size ≤ maxLen) :
    Calls Try.prog 5 #[.int .i64 a0, .string a1] w fun e w' => e = .returned (.bool true) ∧ Below w.heap.size w w' := by
  unfold maxLen at w1
  clear w0
  by_cases hs : a1.size ≤ 1048576
  · by_cases h : 0 ≤ a0 ∧ a0 < 65003
    · have H := Lib.hid h
      clear h
      go_enter Try.func5, Try.ntmps5
      go_wp2_with (first | (go_at_call 14; refine (specCheckOf_any _ _ _ hs).mono ?_; rw [if_pos H.out]; unfold tupIB; rintro e w' ⟨rfl, rfl⟩) | (go_at_call 15; refine (implCheckOf_any _ _ _ hs).mono ?_; rw [if_pos H.out]; unfold tupIB; rintro e w' ⟨rfl, rfl⟩))
      all_goals (go_ret; exact ⟨rfl, Below.refl _ _⟩)
    · have H := Lib.hid h
      clear h
      go_enter Try.func5, Try.ntmps5
      go_wp2_with (first | (go_at_call 14; refine (specCheckOf_any _ _ _ hs).mono ?_; rw [if_neg H.out]; unfold tupIB; rintro e w' ⟨rfl, rfl⟩) | (go_at_call 15; refine (implCheckOf_any _ _ _ hs).mono ?_; rw [if_neg H.out]; unfold tupIB; rintro e w' ⟨rfl, rfl⟩))
      all_goals (go_ret; exact ⟨rfl, Below.refl _ _⟩)
  · go_enter Try.func5, Try.ntmps5
    go_wp2_with fail
    all_goals (go_ret; exact ⟨rfl, Below.refl _ _⟩)
end Go.Proofs.Ytogdolnmcfemfac.fnExactCheckOf
