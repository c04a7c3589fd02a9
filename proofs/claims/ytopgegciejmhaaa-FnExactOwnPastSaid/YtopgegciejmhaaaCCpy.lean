/-
  The laws' own helpers: a copy of a slice of 32-bit floats, and whether two are the same.
-/
import Derived.Test.YtopgegciejmhaaaChecked
import Derived.Test.YtopgegciejmhaaaVcp
import Derived.Test.YtopgegciejmhaaaSam
import Derived.Deep.RegionHeld3
namespace Go.Proofs.Ytopgegciejmhaaa
open Ieee Go.RowKit
set_option linter.unusedVariables false

theorem Try.infoF : (Try.prog.info? 33).map (fun i => (i.zero, i.size, i.bytes)) = some (some (.float .f32 0), 1, 4) := by kernel_rfl
theorem toF_any (a : Option Addr) (len cap : Nat) (zs : List Nat) (w : World) (h : FSl w a len zs) (hm : len ≤ 1048576) :
    Calls Try.prog 16 #[.slice a len cap] w fun e w' => e = .returned (.slice (some ⟨w.heap.size, 0, none⟩) len len) ∧ FSl w' (some ⟨w.heap.size, 0, none⟩) len zs ∧ Below w.heap.size w w' := by
  obtain ⟨i0, hi, hz0, hz1, hz2⟩ := info_parts Try.infoF
  have hmk := fun W => run_make_len (P := Try.prog) W 22 33 i0 (.float .f32 0) Try.underlying22 hi hz0 hz1 len (by rw [hz2]; omega) (by omega)
  have h0 := Lib.hid (Fills.start (f := Value.float .f32) (d := (0 : Nat)) w.heap.size len zs w (Value.float .f32 0).cells 33 rfl len rfl)
  clear hi hz0 hz1 hz2
  have H := Lib.hid h
  clear h
  go_enter Try.func16, Try.ntmps16
  go_wp2
  clear hmk
  go_loopw [4] (fun i wr => ∃ k : Nat, k ≤ len ∧ i = .int .i64 k ∧ Hid (Fills (Value.float .f32) 0 w.heap.size len zs k w wr)) (fun i _ => len - (intOf i).toNat)
  case atStart => exact ⟨0, Nat.zero_le _, rfl, h0⟩
  case round =>
    rename_i wr
    obtain ⟨k, hk, rfl, hf⟩ := hrel
    by_cases hlt : k < len
    · obtain ⟨b, off, rfl, hb, hc⟩ := H.out.at (by omega)
      have hck := hc k hlt
      rw [← hf.out.1.cell (p := ⟨b, off + k, none⟩) hb] at hck
      obtain ⟨⟨v, hv⟩, hz⟩ := hf.out.next hlt
      have hstep := Lib.hid (hf.out.step hlt)
      generalize zs.getD k 0 = z at *
      clear hc hb h0 hf H
      go_wp2
      go_roundw
      case rel => exact ⟨k + 1, by omega, by go_num, hstep⟩
      case measure => simp [intOf]; omega
    · have e : k = len := by omega
      subst e
      have hfin := Lib.hid (hf.out.done H.out.1)
      have hbel := Lib.hid hf.out.1
      clear hf h0 H
      go_wp2
      go_ret
      exact ⟨rfl, hfin.out, hbel.out⟩
end Go.Proofs.Ytopgegciejmhaaa
