/-
  The laws' own helpers: a copy of a slice of integers, and whether two are the same.
-/
import Derived.Test.YtldaamgohdnjnaaChecked
import Derived.Test.YtldaamgohdnjnaaVcp
import Derived.Test.YtldaamgohdnjnaaIsl
import Derived.Deep.RegionHeld3
import Derived.Deep.QuietTactic
import Derived.BigQuiet
namespace Go.Proofs.Ytldaamgohdnjnaa
open Go.RowKit
set_option linter.unusedVariables false

theorem Try.infoI : (Try.prog.info? 2).map (fun i => (i.zero, i.size, i.bytes)) = some (some (.int .i64 0), 1, 8) := by kernel_rfl
theorem eqI_any (a a' : Option Addr) (len cap cap' : Nat) (zs : List Int) (w : World) (h : ISl w a len zs) (h' : ISl w a' len zs) (hm : len ≤ 1048576) :
    Calls Try.prog 43 #[.slice a len cap, .slice a' len cap'] w (RetV (.bool true) w) := by
  have H := Lib.hid h
  have H' := Lib.hid h'
  clear h h'
  go_enter Try.func43, Try.ntmps43
  go_wp2
  go_loopw [5] (fun i wr => ∃ k n : Nat, k ≤ len ∧ i = .int .i64 k ∧ wr = w.drewN n) (fun i _ => len - (intOf i).toNat)
  case atStart => exact ⟨0, 0, Nat.zero_le _, rfl, rfl⟩
  case round =>
    obtain ⟨k, n, hk, rfl, rfl⟩ := hrel
    by_cases hlt : k < len
    · obtain ⟨b, off, rfl, hb, hc⟩ := H.out.at (by omega)
      obtain ⟨b', off', rfl, hb', hc'⟩ := H'.out.at (by omega)
      have hck := hc k hlt
      have hck' := hc' k hlt
      generalize zs.getD k 0 = z at *
      clear hc hc' hb hb' H H'
      go_wp2
      go_quiet (fail)
      go_wp2
      go_roundw
      case rel => exact ⟨k + 1, _, by omega, by go_num, rfl⟩
      case measure => simp [intOf]; omega
    · go_wp2
      go_ret
      exact ⟨n, rfl, rfl⟩
end Go.Proofs.Ytldaamgohdnjnaa
