/-
  'eqFloat32S' of the laws: of two lists that are the same up to not-a-numbers it is true.
-/
import Derived.Test.YtopgegciejmhaaaCCpy
import Derived.Deep.QuietTactic
import Derived.BigQuiet
namespace Go.Proofs.Ytopgegciejmhaaa
open Ieee Go.RowKit
set_option linter.unusedVariables false

set_option maxHeartbeats 4000000 in
theorem eqF_any (a a' : Option Addr) (len cap cap' : Nat) (zs zs' : List Nat) (w : World) (h : FSl w a len zs) (h' : FSl w a' len zs') (hm : len ≤ 1048576) (hz : ∀ i, i < len → cn .f32 (zs.getD i 0) = cn .f32 (zs'.getD i 0)) :
    Calls Try.prog 19 #[.slice a len cap, .slice a' len cap'] w (RetV (.bool true) w) := by
  have H := Lib.hid h
  have H' := Lib.hid h'
  have Hz := Lib.hid hz
  clear h h' hz
  go_enter Try.func19, Try.ntmps19
  go_wp2
  go_loopw [5] (fun i wr => ∃ k n : Nat, k ≤ len ∧ i = .int .i64 k ∧ wr = w.drewN n) (fun i _ => len - (intOf i).toNat)
  case atStart => exact ⟨0, 0, Nat.zero_le _, rfl, rfl⟩
  case round =>
    obtain ⟨k, n, hk, rfl, rfl⟩ := hrel
    by_cases hlt : k < len
    · obtain ⟨b, off, rfl, hb, hc⟩ := H.out.at (by omega)
      obtain ⟨b', off', rfl, hb', hc'⟩ := H'.out.at (by omega)
      have hck := hc k hlt
      have hck' := hc' k hlt
      have Hk := Lib.hid (Hz.out k hlt)
      generalize zs.getD k 0 = z at *
      generalize zs'.getD k 0 = z' at *
      clear hc hc' hb hb' H H' Hz
      cases hN : isN .f32 z
      · have hN' : isN .f32 z' = false := by rw [← isN_congr Hk.out]; exact hN
        have hc1 : ∀ w, (convert 33 37 (.float .f32 z)).run Try.prog w = .ok (.float .f64 (awide z)) w := fun w => by
          rw [run_wideR w _ _ Try.underlying33 Try.underlying37]; unfold wideR wideN; rw [hN]; rfl
        have hc2 : ∀ w, (convert 33 37 (.float .f32 z')).run Try.prog w = .ok (.float .f64 (awide z')) w := fun w => by
          rw [run_wideR w _ _ Try.underlying33 Try.underlying37]; unfold wideR wideN; rw [hN']; rfl
        have Hs := Lib.hid (show cn .f64 (awide z) = cn .f64 (awide z') by rw [← awide_cn z, ← awide_cn z', Hk.out])
        clear hN hN' Hk
        go_wp2
        go_quiet ((go_at_call 26; exact quiet_add_V (sameFloat_true _ _ _ Hs.out)))
        go_wp2
        go_roundw
        case rel => exact ⟨k + 1, _, by omega, by go_num, rfl⟩
        case measure => simp [intOf]; omega
      · clear hN
        go_wp2
        go_region_with (first | (go_at_call 26; refine (sameFloat_true _ _ _ (by rw [cn_wideR, cn_wideR, Hk.out])).mono ?_; rintro e w' ⟨m, rfl, rfl⟩))
        all_goals
          go_wp2
          go_roundw
          case rel => exact ⟨k + 1, _, by omega, by go_num, rfl⟩
          case measure => simp [intOf]; omega
    · go_wp2
      go_ret
      exact ⟨n, rfl, rfl⟩
end Go.Proofs.Ytopgegciejmhaaa
