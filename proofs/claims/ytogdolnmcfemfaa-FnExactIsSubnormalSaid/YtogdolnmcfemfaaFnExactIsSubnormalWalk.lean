import Derived.Test.YtogdolnmcfemfaaCSub
namespace Go.Proofs.Ytogdolnmcfemfaa.fnExactIsSubnormal
open Go.RowKit Ieee
set_option linter.unusedVariables false
theorem spec_any (x : Nat) (w : World) (hx : x < 4294967296) : Calls Try.prog 21 #[.float .f32 x] w (RetV (.bool (sub32 x)) w) := by
  have hz := order_zero32 x
  have he := exp_zero x hx
  have h2 := exp_sub x hx
  have hs : sub32 x = (!decide (x % 2147483648 = 0) && decide (x % 2147483648 < 8388608)) := by
    unfold sub32
    by_cases a : x % 2147483648 = 0 <;> by_cases b : x % 2147483648 < 8388608 <;> simp [a, b] <;> omega
  generalize hE : bitsOf x / 8388608 % 256 * 8388608 = E at *
  clear hE
  by_cases a : x % 2147483648 = 0
  · rw [decide_eq_true a] at hz hs
    replace hs : sub32 x = false := by rw [hs]; rfl
    have hz := eq_of_beq hz
    have Hs := Lib.hid hs
    clear hs a h2
    go_enter Try.func21, Try.ntmps21
    go_wp2_with (go_at_call 28; refine (l01Bits_any _ _ hx).mono ?_; rintro e w' ⟨n, rfl, rfl⟩)
    go_ret
    refine ⟨0, ?_, rfl⟩
    show Ending.returned (Value.bool false) = _
    rw [Hs.out]
  · rw [decide_eq_false a] at hz hs
    replace hs : sub32 x = ((E : Int) == 0) := by rw [hs, h2]; rfl
    have hz : ((FloatKind.format .f32).order x 0 != some Ordering.eq) = true := by rw [bne, hz]; rfl
    have Hs := Lib.hid hs
    clear hs a h2
    go_enter Try.func21, Try.ntmps21
    go_wp2_with (go_at_call 28; refine (l01Bits_any _ _ hx).mono ?_; rintro e w' ⟨n, rfl, rfl⟩)
    go_ret
    refine ⟨_, ?_, rfl⟩
    show Ending.returned (Value.bool ((E : Int) == 0)) = _
    rw [Hs.out]
theorem walk (a0 : Nat) (w : World) (w0 : (Lit.float .f32 a0).wf = true) :
    Calls Try.prog 8 #[.float .f32 a0] w fun e w' => e = .returned (.bool true) ∧ Below w.heap.size w w' := by
  have hb0 : a0 < 4294967296 := by simpa [Lit.wf] using w0
  clear w0
  go_enter Try.func8, Try.ntmps8
  go_wp2_with (first | (go_at_call 22; refine (implSub_any _ _).mono ?_; rintro e w' ⟨n, rfl, rfl⟩) | (go_at_call 21; refine (spec_any _ _ hb0).mono ?_; rintro e w' ⟨m, rfl, rfl⟩))
  all_goals (go_ret; exact ⟨rfl, below_drewN (Below.refl _ _) _⟩)
end Go.Proofs.Ytogdolnmcfemfaa.fnExactIsSubnormal
