/-
  MovingMean of the program.
-/
import Derived.Test.YtallegmkkbmelaaCMov
namespace Go.Proofs.Ytallegmkkbmelaa
open Ieee Go.RowKit
set_option linter.unusedVariables false

theorem mean_tells (A : Option Addr) (n cap : Nat) (ys : List Nat) (wr : World) (h : FSl wr A n ys) (hs : serB ys = true) (_h1 : n ≤ cap) (_h2 : cap ≤ 1048576) :
    Calls Try.prog 76 #[.slice A n cap] wr (TellsW mean32 ys wr) := by
  have hB : meanB ys = fin .f32 (mean32 ys) := by unfold meanB; rw [hs]; rfl
  refine (implMean_any A n cap ys wr h (by omega)).mono ?_
  rw [hB]
  rintro e w' ⟨r, m, hr, rfl, rfl⟩
  refine ⟨r, rfl, fun hf => ?_, below_drewN (Below.refl _ _) _⟩
  rw [hr]
  unfold meanR
  rw [hB, hf]
  rfl
theorem implMov_any (a : Option Addr) (len cap : Nat) (zs : List Nat) (q : Int) (w : World) (h : FSl w a len zs) (hm : len ≤ 1048576) (hcap : len ≤ cap) (hcap2 : cap ≤ 9223372036854775807) :
    Calls Try.prog 73 #[.slice a len cap, .int .i64 q] w (RetOB 23 (movR zs q) (movB zs q) w) := by
  have H := Lib.hid h
  clear h
  go_enter Try.func73, Try.ntmps73
  go_wp2_with fail
  refine (windows_any 76 mean32 (enter_of Try.func76 (by kernel_rfl) rfl) mean_tells _ _ _ _ _ _ H.out hm hcap hcap2).mono ?_
  rintro e w1 ⟨v, rs, rfl, ho, hx, hb⟩
  have HO := Lib.hid ho
  have HX := Lib.hid hx
  have HBl := Lib.hid hb
  clear ho hx hb
  go_wp2
  go_ret2
  exact ⟨v, rs, rfl, HO.out, HX.out, HBl.out⟩
end Go.Proofs.Ytallegmkkbmelaa
