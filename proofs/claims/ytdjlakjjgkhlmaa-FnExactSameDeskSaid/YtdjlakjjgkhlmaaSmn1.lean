/-
  l04Same of the model: places that differ.
-/
import Derived.Test.YtdjlakjjgkhlmaaSms
import Derived.Test.YtdjlakjjgkhlmaaDkv
import Derived.Test.YtdjlakjjgkhlmaaRgm
import Derived.Deep.DeepCutAuto
namespace Go.Proofs.Ytdjlakjjgkhlmaa
open Ieee Go.RowKit
set_option linter.unusedVariables false
def smN1 (p p' l s : Nat) (a0 : Option Addr) (len cap : Nat) (zs : List Nat) (t : Int) (l' s' : Nat) (a0' : Option Addr) (len' cap' : Nat) (zs' : List Nat) (t' : Int) : Nat → Value → World → Prop
  | 0, v, w => v = (.pointer (some ⟨p, 1, none⟩))
  | 1, v, w => v = (.pointer (some ⟨p, 1, none⟩))
  | 2, v, w => v = (.pointer (some ⟨p, 4, none⟩))
  | 3, v, w => v = (.int .i64 t)
  | 4, v, w => v = (.pointer (some ⟨p', 1, none⟩))
  | 5, v, w => v = (.pointer (some ⟨p', 1, none⟩))
  | 6, v, w => v = (.pointer (some ⟨p', 4, none⟩))
  | 7, v, w => v = (.int .i64 t')
  | 8, v, w => v = (.bool false)
  | 9, v, w => v = (.bool false)
  | 10, v, w => v = undef
  | 11, v, w => v = undef
  | 12, v, w => v = undef
  | 13, v, w => v = undef
  | 14, v, w => v = undef
  | 15, v, w => v = undef
  | 16, v, w => v = undef
  | 17, v, w => v = undef
  | 18, v, w => v = undef
  | 19, v, w => v = undef
  | 20, v, w => v = undef
  | 21, v, w => v = undef
  | 22, v, w => v = undef
  | 23, v, w => v = undef
  | 24, v, w => v = undef
  | 25, v, w => v = undef
  | 26, v, w => v = undef
  | 27, v, w => v = undef
  | 28, v, w => v = undef
  | 29, v, w => v = (.bool false)
  | 30, v, w => v = (.bool false)
  | 31, v, w => v = undef
  | 32, v, w => v = undef
  | 33, v, w => v = undef
  | 34, v, w => v = undef
  | 35, v, w => v = undef
  | 36, v, w => v = undef
  | 37, v, w => v = undef
  | 38, v, w => v = undef
  | 39, v, w => v = undef
  | 40, v, w => v = (.bool false)
  | 41, v, w => v = (.bool false)
  | _, _, _ => True
theorem smN1_mono (p p' l s : Nat) (a0 : Option Addr) (len cap : Nat) (zs : List Nat) (t : Int) (l' s' : Nat) (a0' : Option Addr) (len' cap' : Nat) (zs' : List Nat) (t' : Int) : ∀ i v w w', smN1 p p' l s a0 len cap zs t l' s' a0' len' cap' zs' t' i v w → Below w.heap.size w w' → smN1 p p' l s a0 len cap zs t l' s' a0' len' cap' zs' t' i v w'
  := by
  intro i v w w' h hb
  unfold smN1 at *
  split
  · exact h
  · exact h
  · exact h
  · exact h
  · exact h
  · exact h
  · exact h
  · exact h
  · exact h
  · exact h
  · exact h
  · exact h
  · exact h
  · exact h
  · exact h
  · exact h
  · exact h
  · exact h
  · exact h
  · exact h
  · exact h
  · exact h
  · exact h
  · exact h
  · exact h
  · exact h
  · exact h
  · exact h
  · exact h
  · exact h
  · exact h
  · exact h
  · exact h
  · exact h
  · exact h
  · exact h
  · exact h
  · exact h
  · exact h
  · exact h
  · exact h
  · exact h
  · trivial
set_option maxHeartbeats 2000000 in
set_option maxRecDepth 100000 in
theorem l04SameN1_any (p p' l s : Nat) (a0 : Option Addr) (len cap : Nat) (zs : List Nat) (t : Int) (l' s' : Nat) (a0' : Option Addr) (len' cap' : Nat) (zs' : List Nat) (t' : Int) (w : World) (hp : St1 w p l s a0 len cap t) (hp' : St1 w p' l' s' a0' len' cap' t') (h : FSl w a0 len zs) (h' : FSl w a0' len' zs') (hm : len ≤ 1048576) (hm' : len' ≤ 1048576) (ht : t ≠ t') :
    Calls Try.prog 78 #[.pointer (some ⟨p, 1, none⟩), .pointer (some ⟨p', 1, none⟩)] w fun e w' => e = .returned (.bool (false)) ∧ Below w.heap.size w w' := by
  have HP := Lib.hid hp
  have HP' := Lib.hid hp'
  have H := Lib.hid h
  have H' := Lib.hid h'
  clear h h' hp hp'
  have HD := Lib.hid (show (t == t') = false by rw [beq_eq_false_iff_ne]; exact ht)
  clear ht
  go_enter Try.func78, Try.ntmps78
  go_upto_region 1 with fail
  refine wp_region_M (smN1 p p' l s a0 len cap zs t l' s' a0' len' cap' zs' t') (by kernel_rfl) (smN1_mono p p' l s a0 len cap zs t l' s' a0' len' cap' zs' t') (by kernel_rfl) ?_ ?_
  · refine ⟨?_, ?_, ?_, ?_, ?_, ?_, ?_, ?_, ?_, ?_, ?_, ?_, ?_, ?_, ?_, ?_, ?_, ?_, ?_, ?_, ?_, ?_, ?_, ?_, ?_, ?_, ?_, ?_, ?_, ?_, ?_, ?_, ?_, ?_, ?_, ?_, ?_, ?_, ?_, ?_, ?_, ?_, trivial⟩
    · refine opM_do rfl (fun a w' hS hf K hK => ?_)
      have s0 : a.tmps.getD 0 undef = (.pointer (some ⟨p, 1, none⟩)) := (hS.rest 0 (by kernel_rfl)).trans rfl
      go_simp
      exact hK _ _ (Below.refl _ _) rfl
    · refine opM_do rfl (fun a w' hS hf K hK => ?_)
      have s5 : a.tmps.getD 5 undef = (.pointer (some ⟨p, 1, none⟩)) := hf 0 (by kernel_rfl) _ 5 rfl rfl
      go_simp
      exact hK _ _ (Below.refl _ _) rfl
    · refine opM_do rfl (fun a w' hS hf K hK => ?_)
      have s6 : a.tmps.getD 6 undef = (.pointer (some ⟨p, 1, none⟩)) := hf 1 (by kernel_rfl) _ 6 rfl rfl
      go_simp
      exact hK _ _ (Below.refl _ _) rfl
    · refine opM_do rfl (fun a w' hS hf K hK => ?_)
      have s7 : a.tmps.getD 7 undef = (.pointer (some ⟨p, 4, none⟩)) := hf 2 (by kernel_rfl) _ 7 rfl rfl
      have c : w'.cell? ⟨p, 4, none⟩ = some (.int .i64 t) := by rw [hS.below.cell (p := ⟨p, 4, none⟩) (lt_of_cell HP.out.1)]; exact HP.out.2.2.2
      go_simp
      exact hK _ _ (Below.refl _ _) rfl
    · refine opM_do rfl (fun a w' hS hf K hK => ?_)
      have s1 : a.tmps.getD 1 undef = (.pointer (some ⟨p', 1, none⟩)) := (hS.rest 1 (by kernel_rfl)).trans rfl
      go_simp
      exact hK _ _ (Below.refl _ _) rfl
    · refine opM_do rfl (fun a w' hS hf K hK => ?_)
      have s9 : a.tmps.getD 9 undef = (.pointer (some ⟨p', 1, none⟩)) := hf 4 (by kernel_rfl) _ 9 rfl rfl
      go_simp
      exact hK _ _ (Below.refl _ _) rfl
    · refine opM_do rfl (fun a w' hS hf K hK => ?_)
      have s10 : a.tmps.getD 10 undef = (.pointer (some ⟨p', 1, none⟩)) := hf 5 (by kernel_rfl) _ 10 rfl rfl
      go_simp
      exact hK _ _ (Below.refl _ _) rfl
    · refine opM_do rfl (fun a w' hS hf K hK => ?_)
      have s11 : a.tmps.getD 11 undef = (.pointer (some ⟨p', 4, none⟩)) := hf 6 (by kernel_rfl) _ 11 rfl rfl
      have c : w'.cell? ⟨p', 4, none⟩ = some (.int .i64 t') := by rw [hS.below.cell (p := ⟨p', 4, none⟩) (lt_of_cell HP'.out.1)]; exact HP'.out.2.2.2
      go_simp
      exact hK _ _ (Below.refl _ _) rfl
    · refine opM_do rfl (fun a w' hS hf K hK => ?_)
      have s8 : a.tmps.getD 8 undef = (.int .i64 t) := hf 3 (by kernel_rfl) _ 8 rfl rfl
      have s12 : a.tmps.getD 12 undef = (.int .i64 t') := hf 7 (by kernel_rfl) _ 12 rfl rfl
      have hd : (t == t') = false := HD.out
      go_simp
      exact hK _ _ (Below.refl _ _) rfl
    · refine opM_do rfl (fun a w' hS hf K hK => ?_)
      have s13 : a.tmps.getD 13 undef = (.bool false) := hf 8 (by kernel_rfl) _ 13 rfl rfl
      go_simp
      exact hK _ _ (Below.refl _ _) rfl
    · exact opM_no rfl rfl rfl (by kernel_rfl) (fun v w h => h) (fun w => rfl)
    · exact opM_no rfl rfl rfl (by kernel_rfl) (fun v w h => h) (fun w => rfl)
    · exact opM_no rfl rfl rfl (by kernel_rfl) (fun v w h => h) (fun w => rfl)
    · exact opM_no rfl rfl rfl (by kernel_rfl) (fun v w h => h) (fun w => rfl)
    · exact opM_no rfl rfl rfl (by kernel_rfl) (fun v w h => h) (fun w => rfl)
    · exact opM_no rfl rfl rfl (by kernel_rfl) (fun v w h => h) (fun w => rfl)
    · exact opM_no rfl rfl rfl (by kernel_rfl) (fun v w h => h) (fun w => rfl)
    · exact opM_no rfl rfl rfl (by kernel_rfl) (fun v w h => h) (fun w => rfl)
    · exact opM_no rfl rfl rfl (by kernel_rfl) (fun v w h => h) (fun w => rfl)
    · exact opM_no rfl rfl rfl (by kernel_rfl) (fun v w h => h) (fun w => rfl)
    · exact opM_no rfl rfl rfl (by kernel_rfl) (fun v w h => h) (fun w => rfl)
    · exact opM_no rfl rfl rfl (by kernel_rfl) (fun v w h => h) (fun w => rfl)
    · exact opM_no rfl rfl rfl (by kernel_rfl) (fun v w h => h) (fun w => rfl)
    · exact opM_no rfl rfl rfl (by kernel_rfl) (fun v w h => h) (fun w => rfl)
    · exact opM_no rfl rfl rfl (by kernel_rfl) (fun v w h => h) (fun w => rfl)
    · exact opM_no rfl rfl rfl (by kernel_rfl) (fun v w h => h) (fun w => rfl)
    · exact opM_no rfl rfl rfl (by kernel_rfl) (fun v w h => h) (fun w => rfl)
    · exact opM_no rfl rfl rfl (by kernel_rfl) (fun v w h => h) (fun w => rfl)
    · exact opM_no rfl rfl rfl (by kernel_rfl) (fun v w h => h) (fun w => rfl)
    · refine opM_do rfl (fun a w' hS hf K hK => ?_)
      have s14 : a.tmps.getD 14 undef = (.bool false) := hf 9 (by kernel_rfl) _ 14 rfl rfl
      have s33 : a.tmps.getD 33 undef = undef := hf 28 (by kernel_rfl) _ 33 rfl rfl
      go_simp
      exact hK _ _ (Below.refl _ _) rfl
    · refine opM_do rfl (fun a w' hS hf K hK => ?_)
      have s34 : a.tmps.getD 34 undef = (.bool false) := hf 29 (by kernel_rfl) _ 34 rfl rfl
      go_simp
      exact hK _ _ (Below.refl _ _) rfl
    · exact opM_no rfl rfl rfl (by kernel_rfl) (fun v w h => h) (fun w => rfl)
    · exact opM_no rfl rfl rfl (by kernel_rfl) (fun v w h => h) (fun w => rfl)
    · exact opM_no rfl rfl rfl (by kernel_rfl) (fun v w h => h) (fun w => rfl)
    · exact opM_no rfl rfl rfl (by kernel_rfl) (fun v w h => h) (fun w => rfl)
    · exact opM_no rfl rfl rfl (by kernel_rfl) (fun v w h => h) (fun w => rfl)
    · exact opM_no rfl rfl rfl (by kernel_rfl) (fun v w h => h) (fun w => rfl)
    · exact opM_no rfl rfl rfl (by kernel_rfl) (fun v w h => h) (fun w => rfl)
    · exact opM_no rfl rfl rfl (by kernel_rfl) (fun v w h => h) (fun w => rfl)
    · exact opM_no rfl rfl rfl (by kernel_rfl) (fun v w h => h) (fun w => rfl)
    · refine opM_do rfl (fun a w' hS hf K hK => ?_)
      have s35 : a.tmps.getD 35 undef = (.bool false) := hf 30 (by kernel_rfl) _ 35 rfl rfl
      have s44 : a.tmps.getD 44 undef = undef := hf 39 (by kernel_rfl) _ 44 rfl rfl
      go_simp
      exact hK _ _ (Below.refl _ _) rfl
    · refine opM_do rfl (fun a w' hS hf K hK => ?_)
      have s45 : a.tmps.getD 45 undef = (.bool false) := hf 40 (by kernel_rfl) _ 45 rfl rfl
      go_simp
      exact hK _ _ (Below.refl _ _) rfl
  · intro a w' hS hF
    have e4 : a.tmps.getD 4 undef = (.bool false) := hF 41 _ 4 rfl rfl
    have hdf := hS.defers
    have HB := Lib.hid (show Below w.heap.size w w' from (below_drewN (Below.refl _ _) 1).trans hS.below)
    obtain ⟨tm, df⟩ := a
    simp only at e4 hdf
    subst hdf
    clear hF hS
    go_wp2
    go_ret
    exact ⟨congrArg Ending.returned e4, HB.out⟩
end Go.Proofs.Ytdjlakjjgkhlmaa
