import Derived.Test.YtogdolnmcfemfabCPhs
import Derived.Test.YtogdolnmcfemfabSam
import Derived.Deep.QuietTactic
import Derived.BigQuiet
namespace Go.Proofs.Ytogdolnmcfemfab.fnExactPhasorOf
open Go.RowKit Ieee
set_option linter.unusedVariables false
theorem run_f2f (x : Nat) (w : World) : (Conv.floatToFloat .f32 x .f64).run Try.prog w = .ok (.float .f64 (wideR x w)) (w.drewN (wideN x)) := by
  have h := run_wideR (P := Try.prog) w 22 25 Try.underlying22 Try.underlying25 x
  simpa [convert, run_underlying Try.underlying22, run_underlying Try.underlying25] using h
@[go_sem] theorem run_c32 (src dst : TypeId) (hs : Try.prog.underlying src = some (.complex .f32)) (hd : Try.prog.underlying dst = some (.complex .f64)) (a b : Nat) (w : World) :
    (convert src dst (.complex .f32 a b)).run Try.prog w = .ok (.complex .f64 (wideR a w) (wideR b (w.drewN (wideN a)))) ((w.drewN (wideN a)).drewN (wideN b)) := by
  simp [convert, run_underlying hs, run_underlying hd, Conv.complexToComplex, run_f2f]
theorem sameComplex_true (a b c d : Nat) (w : World) (h1 : cn .f64 a = cn .f64 c) (h2 : cn .f64 b = cn .f64 d) :
    Calls Try.prog 17 #[.complex .f64 a b, .complex .f64 c d] w (RetV (.bool true) w) := by
  have H1 := Lib.hid h1
  have H2 := Lib.hid h2
  clear h1 h2
  go_enter Try.func17, Try.ntmps17
  go_wp2_with (go_at_call 12; refine (sameFloat_true _ _ _ (by first | exact H1.out | exact H2.out)).mono ?_; rintro e w' ⟨n, rfl, rfl⟩)
  go_ret
  exact ⟨_, rfl, rfl⟩
theorem walk (a0 : Nat) (w : World) (w0 : (Lit.float .f64 a0).wf = true) :
    Calls Try.prog 5 #[.float .f64 a0] w fun e w' => e = .returned (.bool true) ∧ Below w.heap.size w w' := by
  have hb0 : a0 < 18446744073709551616 := by simpa [Lit.wf] using w0
  clear w0
  have hone : ∀ p q p' q', PH a0 p q → PH a0 p' q' → p = p' ∧ q = q' := fun p q p' q' h1 h2 => PH_one h1 h2
  have HO := Lib.hid hone
  clear hone
  go_enter Try.func5, Try.ntmps5
  go_wp2_with (first | (go_at_call 16; refine (implPhasor_any _ _ hb0).mono ?_; rintro e w' ⟨ra, rb, n, rfl, rfl, hr⟩; have Hr := Lib.hid hr; clear hr) | (go_at_call 33; refine (specPhasor_any _ _).mono ?_; rintro e w' ⟨qa, qb, m, rfl, rfl, hq⟩; have Hq := Lib.hid hq; clear hq) | (go_at_call 15; go_in) | (go_at_call 17; refine (sameComplex_true _ _ _ _ _ (by rw [cn_wideR, cn_wideR, (HO.out _ _ _ _ Hr.out Hq.out).1]) (by rw [cn_wideR, cn_wideR, (HO.out _ _ _ _ Hr.out Hq.out).2])).mono ?_; rintro e w' ⟨n, rfl, rfl⟩))
  all_goals (go_ret; exact ⟨rfl, below_drewN (Below.refl _ _) _⟩)
end Go.Proofs.Ytogdolnmcfemfab.fnExactPhasorOf
