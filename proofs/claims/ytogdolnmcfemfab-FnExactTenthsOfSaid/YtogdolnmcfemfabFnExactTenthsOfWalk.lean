import Derived.Test.YtogdolnmcfemfabCTen
namespace Go.Proofs.Ytogdolnmcfemfab.fnExactTenthsOf
open Go.RowKit Ieee
set_option linter.unusedVariables false
theorem walk (a0 : Nat) (w : World) (w0 : (Lit.float .f32 a0).wf = true) :
    Calls Try.prog 7 #[.float .f32 a0] w fun e w' => e = .returned (.bool true) ∧ Below w.heap.size w w' := by
  have hb0 : a0 < 4294967296 := by simpa [Lit.wf] using w0
  clear w0
  have hv : ∃ i b, tenV a0 = .tuple #[.int .i64 i, .bool b] := by unfold tenV; split <;> exact ⟨_, _, rfl⟩
  obtain ⟨i, b, hv⟩ := hv
  have Hv := Lib.hid hv
  clear hv
  go_enter Try.func7, Try.ntmps7
  go_wp2_with (first | (go_at_call 21; refine (implTenths_any _ _ hb0).mono ?_; rw [Hv.out]; rintro e w' ⟨n, rfl, rfl⟩) | (go_at_call 20; refine (specTenths_any _ _ hb0).mono ?_; rw [Hv.out]; rintro e w' ⟨m, rfl, rfl⟩))
  all_goals (go_ret; exact ⟨rfl, below_drewN (Below.refl _ _) _⟩)
end Go.Proofs.Ytogdolnmcfemfab.fnExactTenthsOf
