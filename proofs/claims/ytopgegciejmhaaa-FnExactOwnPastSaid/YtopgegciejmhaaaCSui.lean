/-
  SumNumbers of the program: a sum from left to right.
-/
import Derived.Test.YtopgegciejmhaaaChecked
import Derived.Test.YtopgegciejmhaaaFsl
namespace Go.Proofs.Ytopgegciejmhaaa
open Ieee Go.RowKit
set_option linter.unusedVariables false

theorem implSumNumbers_any (a : Option Addr) (len cap : Nat) (zs : List Nat) (w : World) (h : FSl w a len zs) (hm : len ≤ 1048576) :
    Calls Try.prog 69 #[.slice a len cap] w (RetFB .f32 (if len ≤ 256 then sum32 zs else 0) (decide (len ≤ 256)) w) := by
  by_cases hl : len ≤ 256
  · rw [if_pos hl, decide_eq_true hl]
    go_enter Try.func69, Try.ntmps69
    go_wp2
    go_loopw [4, 6, 12] (fun s x i wr => ∃ k n r : Nat, k ≤ len ∧ i = .int .i64 k ∧ s = .float .f32 r ∧ wr = w.drewN n ∧ Hid (cn .f32 r = sum32 (zs.take k))) (fun _ _ i _ => len - (intOf i).toNat)
    case atStart => exact ⟨0, 0, 0, Nat.zero_le _, rfl, rfl, rfl, Lib.hid cn_zero⟩
    case round =>
      obtain ⟨k, n, r, hk, rfl, rfl, rfl, hr⟩ := hrel
      by_cases hlt : k < len
      · obtain ⟨b, off, rfl, _, hc⟩ := h.at (by omega)
        have hck := hc k hlt
        have hstep := Lib.hid (fun w' => sum32_step (w := w') (by rw [h.1]; exact hlt) hr.out)
        generalize zs.getD k 0 = z at *
        clear hc h hr
        go_wp2
        go_roundw
        case rel => exact ⟨k + 1, _, _, by omega, by go_num, rfl, rfl, Lib.hid (hstep.out _)⟩
        case measure => simp [intOf]; omega
      · have hfin := Lib.hid (show cn .f32 r = sum32 zs by rw [hr.out, List.take_of_length_le (by rw [h.1]; omega)])
        clear h hr
        go_wp2
        go_ret2
        exact ⟨r, n, hfin.out, rfl, rfl⟩
  · rw [if_neg hl, decide_eq_false hl]
    have hd : decide ((256 : Int) < (len : Int)) = true := decide_eq_true (by omega)
    clear h
    go_enter Try.func69, Try.ntmps69
    go_wp2
    go_ret2
    exact ⟨0, 0, cn_zero, rfl, rfl⟩
end Go.Proofs.Ytopgegciejmhaaa
