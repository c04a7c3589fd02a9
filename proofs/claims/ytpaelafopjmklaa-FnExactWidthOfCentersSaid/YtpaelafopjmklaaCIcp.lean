/-
  The laws' own helpers: a copy of a slice of integers, and whether two are the same.
-/
import Derived.Test.YtpaelafopjmklaaChecked
import Derived.Test.YtpaelafopjmklaaVcp
import Derived.Test.YtpaelafopjmklaaIsl
import Derived.Deep.RegionHeld3
import Derived.Deep.QuietTactic
import Derived.BigQuiet
namespace Go.Proofs.Ytpaelafopjmklaa
open Go.RowKit
set_option linter.unusedVariables false

theorem Try.infoI : (Try.prog.info? 2).map (fun i => (i.zero, i.size, i.bytes)) = some (some (.int .i64 0), 1, 8) := by kernel_rfl
theorem toI_any (a : Option Addr) (len cap : Nat) (zs : List Int) (w : World) (h : ISl w a len zs) (hm : len ≤ 1048576) :
    Calls Try.prog 37 #[.slice a len cap] w fun e w' => e = .returned (.slice (some ⟨w.heap.size, 0, none⟩) len len) ∧ ISl w' (some ⟨w.heap.size, 0, none⟩) len zs ∧ Below w.heap.size w w' := by
  obtain ⟨i0, hi, hz0, hz1, hz2⟩ := info_parts Try.infoI
  have hmk := fun W => run_make_len (P := Try.prog) W 45 2 i0 (.int .i64 0) Try.underlying45 hi hz0 hz1 len (by rw [hz2]; omega) (by omega)
  have h0 := Lib.hid (Fills.start (f := Value.int .i64) (d := (0 : Int)) w.heap.size len zs w (Value.int .i64 0).cells 2 rfl len rfl)
  clear hi hz0 hz1 hz2
  have H := Lib.hid h
  clear h
  go_enter Try.func37, Try.ntmps37
  go_wp2
  clear hmk
  go_loopw [4] (fun i wr => ∃ k : Nat, k ≤ len ∧ i = .int .i64 k ∧ Hid (Fills (Value.int .i64) 0 w.heap.size len zs k w wr)) (fun i _ => len - (intOf i).toNat)
  case atStart => exact ⟨0, Nat.zero_le _, rfl, h0⟩
  case round =>
    rename_i wr
    obtain ⟨k, hk, rfl, hf⟩ := hrel
    by_cases hlt : k < len
    · obtain ⟨b, off, rfl, hb, hc⟩ := H.out.at (by omega)
      have hck := hc k hlt
      rw [← hf.out.1.cell (p := ⟨b, off + k, none⟩) hb] at hck
      obtain ⟨⟨v, hv⟩, hz⟩ := hf.out.next hlt
      have hstep := Lib.hid (hf.out.step hlt)
      generalize zs.getD k 0 = z at *
      clear hc hb h0 hf H
      go_wp2
      go_roundw
      case rel => exact ⟨k + 1, by omega, by go_num, hstep⟩
      case measure => simp [intOf]; omega
    · have e : k = len := by omega
      subst e
      have hfin := Lib.hid (hf.out.done H.out.1)
      have hbel := Lib.hid hf.out.1
      clear hf h0 H
      go_wp2
      go_ret
      exact ⟨rfl, hfin.out, hbel.out⟩

theorem eqI_any (a a' : Option Addr) (len cap cap' : Nat) (zs : List Int) (w : World) (h : ISl w a len zs) (h' : ISl w a' len zs) (hm : len ≤ 1048576) :
    Calls Try.prog 39 #[.slice a len cap, .slice a' len cap'] w (RetV (.bool true) w) := by
  have H := Lib.hid h
  have H' := Lib.hid h'
  clear h h'
  go_enter Try.func39, Try.ntmps39
  go_wp2
  go_loopw [5] (fun i wr => ∃ k n : Nat, k ≤ len ∧ i = .int .i64 k ∧ wr = w.drewN n) (fun i _ => len - (intOf i).toNat)
  case atStart => exact ⟨0, 0, Nat.zero_le _, rfl, rfl⟩
  case round =>
    obtain ⟨k, n, hk, rfl, rfl⟩ := hrel
    by_cases hlt : k < len
    · obtain ⟨b, off, rfl, hb, hc⟩ := H.out.at (by omega)
      obtain ⟨b', off', rfl, hb', hc'⟩ := H'.out.at (by omega)
      have hck := hc k hlt
      have hck' := hc' k hlt
      generalize zs.getD k 0 = z at *
      clear hc hc' hb hb' H H'
      go_wp2
      go_quiet (fail)
      go_wp2
      go_roundw
      case rel => exact ⟨k + 1, _, by omega, by go_num, rfl⟩
      case measure => simp [intOf]; omega
    · go_wp2
      go_ret
      exact ⟨n, rfl, rfl⟩
end Go.Proofs.Ytpaelafopjmklaa
