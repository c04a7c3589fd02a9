/-
  The numbers of shares as a list, in both packages.
-/
import Derived.Test.YtdjlakjjgkhlmaaDkv
import Derived.Test.YtdjlakjjgkhlmaaSms
import Derived.Test.YtdjlakjjgkhlmaaNum
import Derived.Test.YtdjlakjjgkhlmaaRgm
import Derived.Deep.DeepCutAuto
namespace Go.Proofs.Ytdjlakjjgkhlmaa
open Ieee Go.RowKit
set_option linter.unusedVariables false
/-- A list of four that was made. -/
def Ret4 (a b c d : Nat) (w : World) (e : Ending) (w' : World) : Prop := ∃ g, e = .returned (.slice (some ⟨g, 0, none⟩) 4 4) ∧ FSl w' (some ⟨g, 0, none⟩) 4 [a, b, c, d] ∧ Below w.heap.size w w'
theorem nb_any (a b c d : Nat) (w : World) : Calls Try.prog 82 #[.agg #[.float .f32 a, .float .f32 b, .float .f32 c, .float .f32 d]] w (Ret4 a b c d w) := by
  have G := Lib.hid (((Below.refl w.heap.size w).alloc (Nat.le_refl _) (.cells #[.float .f32 a, .float .f32 b, .float .f32 c, .float .f32 d] 33)).alloc (by simp) (.cells #[.float .f32 a, .float .f32 b, .float .f32 c, .float .f32 d] 23))
  have HN := Lib.hid ((NumsIn.newAt (w.alloc (.cells #[.float .f32 a, .float .f32 b, .float .f32 c, .float .f32 d] 33)) [a, b, c, d] 23 (p := w.heap.size + 1) (by simp)).fsl (n := 4) rfl)
  go_enter Try.func82, Try.ntmps82
  go_wp2
  go_ret
  exact ⟨w.heap.size + 1, rfl, HN.out, G.out⟩
/-- Two desks are the same. -/
def sdkB (z0 : List Nat) (l s : Nat) (zs : List Nat) (t : Int) (b0 b1 b2 b3 : Nat) (y : Int) (z0' : List Nat) (l' s' : Nat) (zs' : List Nat) (t' : Int) (b0' b1' b2' b3' : Nat) (y' : Int) : Bool :=
  (y == y') && (smtB l s zs t l' s' zs' t' && (allB z0 z0' && allB [b0, b1, b2, b3] [b0', b1', b2', b3']))
def shN (p a b c d : Nat) : Nat → Value → World → Prop
  | 0, v, w => v = (.pointer (some ⟨p, 5, none⟩))
  | 1, v, w => v = (.pointer (some ⟨p, 5, none⟩))
  | 2, v, w => v = (.pointer (some ⟨p, 5, none⟩))
  | 3, v, w => v = (.float .f32 a)
  | 4, v, w => v = (.pointer (some ⟨p, 5, none⟩))
  | 5, v, w => v = (.pointer (some ⟨p, 5, none⟩))
  | 6, v, w => v = (.pointer (some ⟨p, 6, none⟩))
  | 7, v, w => v = (.float .f32 b)
  | 8, v, w => v = (.pointer (some ⟨p, 5, none⟩))
  | 9, v, w => v = (.pointer (some ⟨p, 5, none⟩))
  | 10, v, w => v = (.pointer (some ⟨p, 7, none⟩))
  | 11, v, w => v = (.float .f32 c)
  | 12, v, w => v = (.pointer (some ⟨p, 5, none⟩))
  | 13, v, w => v = (.pointer (some ⟨p, 5, none⟩))
  | 14, v, w => v = (.pointer (some ⟨p, 8, none⟩))
  | 15, v, w => v = (.float .f32 d)
  | 16, v, w => ∃ g, v = .slice (some ⟨g, 0, none⟩) 4 4 ∧ FSl w (some ⟨g, 0, none⟩) 4 [a, b, c, d]
  | 17, v, w => ∃ g, v = .slice (some ⟨g, 0, none⟩) 4 4 ∧ FSl w (some ⟨g, 0, none⟩) 4 [a, b, c, d]
  | _, _, _ => True
theorem shN_mono (p a b c d : Nat) : ∀ i v w w', shN p a b c d i v w → Below w.heap.size w w' → shN p a b c d i v w'
  := by
  intro i v w w' h hb
  unfold shN at *
  split
  · exact h
  · exact h
  · exact h
  · exact h
  · exact h
  · exact h
  · exact h
  · exact h
  · exact h
  · exact h
  · exact h
  · exact h
  · exact h
  · exact h
  · exact h
  · exact h
  · exact (by obtain ⟨g, h1, h2⟩ := h; exact ⟨g, h1, FSl.below h2 hb⟩)
  · exact (by obtain ⟨g, h1, h2⟩ := h; exact ⟨g, h1, FSl.below h2 hb⟩)
  · trivial
set_option maxHeartbeats 2000000 in
set_option maxRecDepth 100000 in
theorem l08Sh_any (p a b c d : Nat) (w : World) (hp : Sh5 w p a b c d) : Calls Try.prog 79 #[.pointer (some ⟨p, 5, none⟩)] w (Ret4 a b c d w) := by
  have HP := Lib.hid hp
  clear hp
  go_enter Try.func79, Try.ntmps79
  go_upto_region 1 with fail
  refine wp_region_M (shN p a b c d) (by kernel_rfl) (shN_mono p a b c d) (by kernel_rfl) ?_ ?_
  · refine ⟨?_, ?_, ?_, ?_, ?_, ?_, ?_, ?_, ?_, ?_, ?_, ?_, ?_, ?_, ?_, ?_, ?_, ?_, trivial⟩
    · refine opM_do rfl (fun a_ w' hS hf K hK => ?_)
      have s0 : a_.tmps.getD 0 undef = (.pointer (some ⟨p, 5, none⟩)) := (hS.rest 0 (by kernel_rfl)).trans rfl
      go_simp
      exact hK _ _ (Below.refl _ _) rfl
    · refine opM_do rfl (fun a_ w' hS hf K hK => ?_)
      have s3 : a_.tmps.getD 3 undef = (.pointer (some ⟨p, 5, none⟩)) := hf 0 (by kernel_rfl) _ 3 rfl rfl
      go_simp
      exact hK _ _ (Below.refl _ _) rfl
    · refine opM_do rfl (fun a_ w' hS hf K hK => ?_)
      have s4 : a_.tmps.getD 4 undef = (.pointer (some ⟨p, 5, none⟩)) := hf 1 (by kernel_rfl) _ 4 rfl rfl
      go_simp
      exact hK _ _ (Below.refl _ _) rfl
    · refine opM_do rfl (fun a_ w' hS hf K hK => ?_)
      have s5 : a_.tmps.getD 5 undef = (.pointer (some ⟨p, 5, none⟩)) := hf 2 (by kernel_rfl) _ 5 rfl rfl
      have c : w'.cell? ⟨p, 5, none⟩ = some (.float .f32 a) := by rw [hS.below.cell (p := ⟨p, 5, none⟩) (lt_of_cell HP.out.1)]; exact HP.out.1
      go_simp
      exact hK _ _ (Below.refl _ _) rfl
    · refine opM_do rfl (fun a_ w' hS hf K hK => ?_)
      have s0 : a_.tmps.getD 0 undef = (.pointer (some ⟨p, 5, none⟩)) := (hS.rest 0 (by kernel_rfl)).trans rfl
      go_simp
      exact hK _ _ (Below.refl _ _) rfl
    · refine opM_do rfl (fun a_ w' hS hf K hK => ?_)
      have s7 : a_.tmps.getD 7 undef = (.pointer (some ⟨p, 5, none⟩)) := hf 4 (by kernel_rfl) _ 7 rfl rfl
      go_simp
      exact hK _ _ (Below.refl _ _) rfl
    · refine opM_do rfl (fun a_ w' hS hf K hK => ?_)
      have s8 : a_.tmps.getD 8 undef = (.pointer (some ⟨p, 5, none⟩)) := hf 5 (by kernel_rfl) _ 8 rfl rfl
      go_simp
      exact hK _ _ (Below.refl _ _) rfl
    · refine opM_do rfl (fun a_ w' hS hf K hK => ?_)
      have s9 : a_.tmps.getD 9 undef = (.pointer (some ⟨p, 6, none⟩)) := hf 6 (by kernel_rfl) _ 9 rfl rfl
      have c : w'.cell? ⟨p, 6, none⟩ = some (.float .f32 b) := by rw [hS.below.cell (p := ⟨p, 6, none⟩) (lt_of_cell HP.out.1)]; exact HP.out.2.1
      go_simp
      exact hK _ _ (Below.refl _ _) rfl
    · refine opM_do rfl (fun a_ w' hS hf K hK => ?_)
      have s0 : a_.tmps.getD 0 undef = (.pointer (some ⟨p, 5, none⟩)) := (hS.rest 0 (by kernel_rfl)).trans rfl
      go_simp
      exact hK _ _ (Below.refl _ _) rfl
    · refine opM_do rfl (fun a_ w' hS hf K hK => ?_)
      have s11 : a_.tmps.getD 11 undef = (.pointer (some ⟨p, 5, none⟩)) := hf 8 (by kernel_rfl) _ 11 rfl rfl
      go_simp
      exact hK _ _ (Below.refl _ _) rfl
    · refine opM_do rfl (fun a_ w' hS hf K hK => ?_)
      have s12 : a_.tmps.getD 12 undef = (.pointer (some ⟨p, 5, none⟩)) := hf 9 (by kernel_rfl) _ 12 rfl rfl
      go_simp
      exact hK _ _ (Below.refl _ _) rfl
    · refine opM_do rfl (fun a_ w' hS hf K hK => ?_)
      have s13 : a_.tmps.getD 13 undef = (.pointer (some ⟨p, 7, none⟩)) := hf 10 (by kernel_rfl) _ 13 rfl rfl
      have c : w'.cell? ⟨p, 7, none⟩ = some (.float .f32 c) := by rw [hS.below.cell (p := ⟨p, 7, none⟩) (lt_of_cell HP.out.1)]; exact HP.out.2.2.1
      go_simp
      exact hK _ _ (Below.refl _ _) rfl
    · refine opM_do rfl (fun a_ w' hS hf K hK => ?_)
      have s0 : a_.tmps.getD 0 undef = (.pointer (some ⟨p, 5, none⟩)) := (hS.rest 0 (by kernel_rfl)).trans rfl
      go_simp
      exact hK _ _ (Below.refl _ _) rfl
    · refine opM_do rfl (fun a_ w' hS hf K hK => ?_)
      have s15 : a_.tmps.getD 15 undef = (.pointer (some ⟨p, 5, none⟩)) := hf 12 (by kernel_rfl) _ 15 rfl rfl
      go_simp
      exact hK _ _ (Below.refl _ _) rfl
    · refine opM_do rfl (fun a_ w' hS hf K hK => ?_)
      have s16 : a_.tmps.getD 16 undef = (.pointer (some ⟨p, 5, none⟩)) := hf 13 (by kernel_rfl) _ 16 rfl rfl
      go_simp
      exact hK _ _ (Below.refl _ _) rfl
    · refine opM_do rfl (fun a_ w' hS hf K hK => ?_)
      have s17 : a_.tmps.getD 17 undef = (.pointer (some ⟨p, 8, none⟩)) := hf 14 (by kernel_rfl) _ 17 rfl rfl
      have c : w'.cell? ⟨p, 8, none⟩ = some (.float .f32 d) := by rw [hS.below.cell (p := ⟨p, 8, none⟩) (lt_of_cell HP.out.1)]; exact HP.out.2.2.2
      go_simp
      exact hK _ _ (Below.refl _ _) rfl
    · refine opM_do rfl (fun a_ w' hS hf K hK => ?_)
      have s6 : a_.tmps.getD 6 undef = (.float .f32 a) := hf 3 (by kernel_rfl) _ 6 rfl rfl
      have s10 : a_.tmps.getD 10 undef = (.float .f32 b) := hf 7 (by kernel_rfl) _ 10 rfl rfl
      have s14 : a_.tmps.getD 14 undef = (.float .f32 c) := hf 11 (by kernel_rfl) _ 14 rfl rfl
      have s18 : a_.tmps.getD 18 undef = (.float .f32 d) := hf 15 (by kernel_rfl) _ 18 rfl rfl
      have HN := ((NumsIn.new w' [a, b, c, d] 23).fsl (n := 4) rfl)
      have q0 : a_.tmps[6]?.getD undef = .float .f32 a := by rw [← Array.getD_eq_getD_getElem?]; assumption
      have q1 : a_.tmps[10]?.getD undef = .float .f32 b := by rw [← Array.getD_eq_getD_getElem?]; assumption
      have q2 : a_.tmps[14]?.getD undef = .float .f32 c := by rw [← Array.getD_eq_getD_getElem?]; assumption
      have q3 : a_.tmps[18]?.getD undef = .float .f32 d := by rw [← Array.getD_eq_getD_getElem?]; assumption
      go_simp
      exact hK _ _ ((Below.refl _ _).alloc (Nat.le_refl _) _) ⟨w'.heap.size, rfl, HN⟩
    · refine opM_do rfl (fun a_ w' hS hf K hK => ?_)
      obtain ⟨g19, s19, h19⟩ := (show ∃ g, (a_.tmps.getD 19 undef) = .slice (some ⟨g, 0, none⟩) 4 4 ∧ FSl w' (some ⟨g, 0, none⟩) 4 [a, b, c, d] from hf 16 (by kernel_rfl) _ 19 rfl rfl)
      go_simp
      exact hK _ _ (Below.refl _ _) ⟨_, rfl, h19⟩
  · intro a_ w' hS hF
    obtain ⟨g, e2, h2⟩ := (show ∃ g, a_.tmps.getD 2 undef = .slice (some ⟨g, 0, none⟩) 4 4 ∧ FSl w' (some ⟨g, 0, none⟩) 4 [a, b, c, d] from hF 17 _ 2 rfl rfl)
    have hdf := hS.defers
    have HB := Lib.hid (show Below w.heap.size w w' from (below_drewN (Below.refl _ _) 1).trans hS.below)
    obtain ⟨tm, df⟩ := a_
    simp only at e2 hdf
    subst hdf
    clear hF hS
    go_wp2
    go_ret
    exact ⟨g, congrArg Ending.returned e2, h2, HB.out⟩
end Go.Proofs.Ytdjlakjjgkhlmaa
