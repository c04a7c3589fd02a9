/-
  'summed' of the program, over any closure.
-/
import Derived.Test.YtopgegciejmhaaaCPos
import Derived.Test.YtopgegciejmhaaaCPlc
import Derived.Deep.RegionHeld3
namespace Go.Proofs.Ytopgegciejmhaaa
open Ieee Go.RowKit
set_option linter.unusedVariables false

/-- What a closure's call gives that is summed. -/
def Adds (tell : Nat → Nat) (I : Nat → World → Prop) (B0 k : Nat) (wr : World) (e : Ending) (w' : World) : Prop :=
  ∃ r, e = .returned (.float .f32 r) ∧ cn .f32 r = tell k ∧ I (k + 1) w' ∧ Below B0 wr w'
def RetS (tell : Nat → Nat) (I : Nat → World → Prop) (B0 n : Nat) (w : World) (e : Ending) (w' : World) : Prop :=
  ∃ r, e = .returned (.float .f32 r) ∧ cn .f32 r = sumT tell n ∧ I n w' ∧ Below B0 w w'
theorem Adds.quiet {tell : Nat → Nat} {I : Nat → World → Prop} {B0 k n r : Nat} {wr : World} (hr : cn .f32 r = tell k) (hI : I (k + 1) (wr.drewN n)) : Adds tell I B0 k wr (.returned (.float .f32 r)) (wr.drewN n) :=
  ⟨r, rfl, hr, hI, below_drewN (Below.refl _ _) n⟩
set_option maxRecDepth 100000 in
theorem summed_any (K : FuncId) (caps : Array Value) (tell : Nat → Nat) (I : Nat → World → Prop) (B0 n : Nat) (w : World) (hen : ∀ args w, (callFunc K args).run Try.prog w = .ok (.enter K args) w) (hn : n ≤ 1048576) (hB : B0 ≤ w.heap.size)
    (h0 : I 0 w) (hI : ∀ k m wr, I k wr → I k (wr.drewN m))
    (hcl : ∀ k wr, k < n → w.heap.size ≤ wr.heap.size → I k wr → Calls Try.prog K (#[.int .i64 k] ++ caps) wr (Adds tell I B0 k wr)) :
    Calls Try.prog 73 #[.int .i64 n, .func (.func K) #[] caps] w (RetS tell I B0 n w) := by
  have HI := Lib.hid hI
  have HC := Lib.hid hcl
  have H0 := Lib.hid h0
  clear hI hcl h0
  go_enter Try.func73, Try.ntmps73
  go_wp2
  go_loopw [5, 6, 8] (fun s p i wr => ∃ (k r : Nat), k ≤ n ∧ i = .int .i64 k ∧ s = .float .f32 r ∧ Hid (cn .f32 r = sumT tell k) ∧ Hid (I k wr) ∧ Hid (Below B0 w wr) ∧ w.heap.size ≤ wr.heap.size) (fun _ _ i _ => n - (intOf i).toNat)
  case atStart => exact ⟨0, 0, Nat.zero_le _, rfl, rfl, Lib.hid cn_zero, H0, Lib.hid (Below.refl _ _), Nat.le_refl _⟩
  case round =>
    rename_i wr
    obtain ⟨k, r, hk, rfl, rfl, hr, hi, hbel, hsz⟩ := hrel
    by_cases hlt : k < n
    · go_wp2_with fail
      refine (HC.out k _ hlt hsz hi.out).mono ?_
      rintro e w1 ⟨x, rfl, hx, hi1, hb1⟩
      have HI1 := Lib.hid (fun m => HI.out _ m _ hi1)
      have HB1 := Lib.hid (hbel.out.trans hb1)
      have HSz := Lib.hid (show w.heap.size ≤ w1.heap.size from Nat.le_trans hsz hb1.size)
      have HRc := Lib.hid (fun w' => sum_step hr.out hx w')
      clear hx hi1 hb1 hi hbel hsz hr
      go_wp2
      go_roundw
      case rel => exact ⟨k + 1, _, by omega, by go_num, rfl, Lib.hid (HRc.out _), Lib.hid (HI1.out _), Lib.hid (below_drewN HB1.out _), HSz.out⟩
      case measure => simp [intOf]; omega
    · obtain rfl : k = n := by omega
      clear HC HI H0
      go_wp2
      go_ret
      exact ⟨r, rfl, hr.out, hi.out, hbel.out⟩
end Go.Proofs.Ytopgegciejmhaaa
