/-
  l04Same of the model: levels or slopes that differ.
-/
import Derived.Test.YtdjlakjjgkhlmaaSms
import Derived.Test.YtdjlakjjgkhlmaaDkv
import Derived.Test.YtdjlakjjgkhlmaaRgm
import Derived.Deep.DeepCutAuto
namespace Go.Proofs.Ytdjlakjjgkhlmaa
open Ieee Go.RowKit
set_option linter.unusedVariables false
def smF1 (p p' l s : Nat) (a0 : Option Addr) (len cap : Nat) (zs : List Nat) (t : Int) (l' s' : Nat) (a0' : Option Addr) (len' cap' : Nat) (zs' : List Nat) (t' : Int) : Nat → Value → World → Prop
  | 0, v, w => v = (.pointer (some ⟨p, 1, none⟩))
  | 1, v, w => v = (.pointer (some ⟨p, 1, none⟩))
  | 2, v, w => v = (.pointer (some ⟨p, 4, none⟩))
  | 3, v, w => v = (.int .i64 t)
  | 4, v, w => v = (.pointer (some ⟨p', 1, none⟩))
  | 5, v, w => v = (.pointer (some ⟨p', 1, none⟩))
  | 6, v, w => v = (.pointer (some ⟨p', 4, none⟩))
  | 7, v, w => v = (.int .i64 t)
  | 8, v, w => v = (.bool true)
  | 9, v, w => v = (.bool true)
  | 10, v, w => v = (.pointer (some ⟨p, 1, none⟩))
  | 11, v, w => v = (.pointer (some ⟨p, 1, none⟩))
  | 12, v, w => v = (.pointer (some ⟨p, 1, none⟩))
  | 13, v, w => v = (.float .f32 l)
  | 14, v, w => v = (.pointer (some ⟨p, 1, none⟩))
  | 15, v, w => v = (.pointer (some ⟨p, 1, none⟩))
  | 16, v, w => v = (.pointer (some ⟨p, 2, none⟩))
  | 17, v, w => v = (.float .f32 s)
  | 18, v, w => ∃ g, v = .slice (some ⟨g, 0, none⟩) 2 2 ∧ FSl w (some ⟨g, 0, none⟩) 2 [l, s]
  | 19, v, w => v = (.pointer (some ⟨p', 1, none⟩))
  | 20, v, w => v = (.pointer (some ⟨p', 1, none⟩))
  | 21, v, w => v = (.pointer (some ⟨p', 1, none⟩))
  | 22, v, w => v = (.float .f32 l')
  | 23, v, w => v = (.pointer (some ⟨p', 1, none⟩))
  | 24, v, w => v = (.pointer (some ⟨p', 1, none⟩))
  | 25, v, w => v = (.pointer (some ⟨p', 2, none⟩))
  | 26, v, w => v = (.float .f32 s')
  | 27, v, w => ∃ g, v = .slice (some ⟨g, 0, none⟩) 2 2 ∧ FSl w (some ⟨g, 0, none⟩) 2 [l', s']
  | 28, v, w => v = (.bool false)
  | 29, v, w => v = (.bool false)
  | 30, v, w => v = (.bool false)
  | 31, v, w => v = undef
  | 32, v, w => v = undef
  | 33, v, w => v = undef
  | 34, v, w => v = undef
  | 35, v, w => v = undef
  | 36, v, w => v = undef
  | 37, v, w => v = undef
  | 38, v, w => v = undef
  | 39, v, w => v = undef
  | 40, v, w => v = (.bool false)
  | 41, v, w => v = (.bool false)
  | _, _, _ => True
theorem smF1_mono (p p' l s : Nat) (a0 : Option Addr) (len cap : Nat) (zs : List Nat) (t : Int) (l' s' : Nat) (a0' : Option Addr) (len' cap' : Nat) (zs' : List Nat) (t' : Int) : ∀ i v w w', smF1 p p' l s a0 len cap zs t l' s' a0' len' cap' zs' t' i v w → Below w.heap.size w w' → smF1 p p' l s a0 len cap zs t l' s' a0' len' cap' zs' t' i v w'
  := by
  intro i v w w' h hb
  unfold smF1 at *
  split
  · exact h
  · exact h
  · exact h
  · exact h
  · exact h
  · exact h
  · exact h
  · exact h
  · exact h
  · exact h
  · exact h
  · exact h
  · exact h
  · exact h
  · exact h
  · exact h
  · exact h
  · exact h
  · exact (by obtain ⟨g, h1, h2⟩ := h; exact ⟨g, h1, FSl.below h2 hb⟩)
  · exact h
  · exact h
  · exact h
  · exact h
  · exact h
  · exact h
  · exact h
  · exact h
  · exact (by obtain ⟨g, h1, h2⟩ := h; exact ⟨g, h1, FSl.below h2 hb⟩)
  · exact h
  · exact h
  · exact h
  · exact h
  · exact h
  · exact h
  · exact h
  · exact h
  · exact h
  · exact h
  · exact h
  · exact h
  · exact h
  · exact h
  · trivial
set_option maxHeartbeats 2000000 in
set_option maxRecDepth 100000 in
theorem l04SameF1_any (p p' l s : Nat) (a0 : Option Addr) (len cap : Nat) (zs : List Nat) (t : Int) (l' s' : Nat) (a0' : Option Addr) (len' cap' : Nat) (zs' : List Nat) (t' : Int) (w : World) (hp : St1 w p l s a0 len cap t) (hp' : St1 w p' l' s' a0' len' cap' t) (h : FSl w a0 len zs) (h' : FSl w a0' len' zs') (hm : len ≤ 1048576) (hm' : len' ≤ 1048576) (hl : (smB l l' && smB s s') = false) :
    Calls Try.prog 78 #[.pointer (some ⟨p, 1, none⟩), .pointer (some ⟨p', 1, none⟩)] w fun e w' => e = .returned (.bool (false)) ∧ Below w.heap.size w w' := by
  have HP := Lib.hid hp
  have HP' := Lib.hid hp'
  have H := Lib.hid h
  have H' := Lib.hid h'
  clear h h' hp hp'
  have HQ := Lib.hid (show allB [l, s] [l', s'] = false by
    cases h1 : smB l l'
    · exact allB_bad (k := 0) (by simp) h1
    · rw [h1, Bool.true_and] at hl
      exact allB_bad (k := 1) (by simp) hl)
  clear hl
  go_enter Try.func78, Try.ntmps78
  go_upto_region 1 with fail
  refine wp_region_M (smF1 p p' l s a0 len cap zs t l' s' a0' len' cap' zs' t') (by kernel_rfl) (smF1_mono p p' l s a0 len cap zs t l' s' a0' len' cap' zs' t') (by kernel_rfl) ?_ ?_
  · refine ⟨?_, ?_, ?_, ?_, ?_, ?_, ?_, ?_, ?_, ?_, ?_, ?_, ?_, ?_, ?_, ?_, ?_, ?_, ?_, ?_, ?_, ?_, ?_, ?_, ?_, ?_, ?_, ?_, ?_, ?_, ?_, ?_, ?_, ?_, ?_, ?_, ?_, ?_, ?_, ?_, ?_, ?_, trivial⟩
    · refine opM_do rfl (fun a w' hS hf K hK => ?_)
      have s0 : a.tmps.getD 0 undef = (.pointer (some ⟨p, 1, none⟩)) := (hS.rest 0 (by kernel_rfl)).trans rfl
      go_simp
      exact hK _ _ (Below.refl _ _) rfl
    · refine opM_do rfl (fun a w' hS hf K hK => ?_)
      have s5 : a.tmps.getD 5 undef = (.pointer (some ⟨p, 1, none⟩)) := hf 0 (by kernel_rfl) _ 5 rfl rfl
      go_simp
      exact hK _ _ (Below.refl _ _) rfl
    · refine opM_do rfl (fun a w' hS hf K hK => ?_)
      have s6 : a.tmps.getD 6 undef = (.pointer (some ⟨p, 1, none⟩)) := hf 1 (by kernel_rfl) _ 6 rfl rfl
      go_simp
      exact hK _ _ (Below.refl _ _) rfl
    · refine opM_do rfl (fun a w' hS hf K hK => ?_)
      have s7 : a.tmps.getD 7 undef = (.pointer (some ⟨p, 4, none⟩)) := hf 2 (by kernel_rfl) _ 7 rfl rfl
      have c : w'.cell? ⟨p, 4, none⟩ = some (.int .i64 t) := by rw [hS.below.cell (p := ⟨p, 4, none⟩) (lt_of_cell HP.out.1)]; exact HP.out.2.2.2
      go_simp
      exact hK _ _ (Below.refl _ _) rfl
    · refine opM_do rfl (fun a w' hS hf K hK => ?_)
      have s1 : a.tmps.getD 1 undef = (.pointer (some ⟨p', 1, none⟩)) := (hS.rest 1 (by kernel_rfl)).trans rfl
      go_simp
      exact hK _ _ (Below.refl _ _) rfl
    · refine opM_do rfl (fun a w' hS hf K hK => ?_)
      have s9 : a.tmps.getD 9 undef = (.pointer (some ⟨p', 1, none⟩)) := hf 4 (by kernel_rfl) _ 9 rfl rfl
      go_simp
      exact hK _ _ (Below.refl _ _) rfl
    · refine opM_do rfl (fun a w' hS hf K hK => ?_)
      have s10 : a.tmps.getD 10 undef = (.pointer (some ⟨p', 1, none⟩)) := hf 5 (by kernel_rfl) _ 10 rfl rfl
      go_simp
      exact hK _ _ (Below.refl _ _) rfl
    · refine opM_do rfl (fun a w' hS hf K hK => ?_)
      have s11 : a.tmps.getD 11 undef = (.pointer (some ⟨p', 4, none⟩)) := hf 6 (by kernel_rfl) _ 11 rfl rfl
      have c : w'.cell? ⟨p', 4, none⟩ = some (.int .i64 t) := by rw [hS.below.cell (p := ⟨p', 4, none⟩) (lt_of_cell HP'.out.1)]; exact HP'.out.2.2.2
      go_simp
      exact hK _ _ (Below.refl _ _) rfl
    · refine opM_do rfl (fun a w' hS hf K hK => ?_)
      have s8 : a.tmps.getD 8 undef = (.int .i64 t) := hf 3 (by kernel_rfl) _ 8 rfl rfl
      have s12 : a.tmps.getD 12 undef = (.int .i64 t) := hf 7 (by kernel_rfl) _ 12 rfl rfl
      go_simp
      exact hK _ _ (Below.refl _ _) rfl
    · refine opM_do rfl (fun a w' hS hf K hK => ?_)
      have s13 : a.tmps.getD 13 undef = (.bool true) := hf 8 (by kernel_rfl) _ 13 rfl rfl
      go_simp
      exact hK _ _ (Below.refl _ _) rfl
    · refine opM_yes rfl rfl rfl (by kernel_rfl) (fun v w h => h) (fun a w' hS hf K hK => ?_)
      have s0 : a.tmps.getD 0 undef = (.pointer (some ⟨p, 1, none⟩)) := (hS.rest 0 (by kernel_rfl)).trans rfl
      go_simp
      exact hK _ _ (Below.refl _ _) rfl
    · refine opM_yes rfl rfl rfl (by kernel_rfl) (fun v w h => h) (fun a w' hS hf K hK => ?_)
      have s15 : a.tmps.getD 15 undef = (.pointer (some ⟨p, 1, none⟩)) := hf 10 (by kernel_rfl) _ 15 rfl rfl
      go_simp
      exact hK _ _ (Below.refl _ _) rfl
    · refine opM_yes rfl rfl rfl (by kernel_rfl) (fun v w h => h) (fun a w' hS hf K hK => ?_)
      have s16 : a.tmps.getD 16 undef = (.pointer (some ⟨p, 1, none⟩)) := hf 11 (by kernel_rfl) _ 16 rfl rfl
      go_simp
      exact hK _ _ (Below.refl _ _) rfl
    · refine opM_yes rfl rfl rfl (by kernel_rfl) (fun v w h => h) (fun a w' hS hf K hK => ?_)
      have s17 : a.tmps.getD 17 undef = (.pointer (some ⟨p, 1, none⟩)) := hf 12 (by kernel_rfl) _ 17 rfl rfl
      have c : w'.cell? ⟨p, 1, none⟩ = some (.float .f32 l) := by rw [hS.below.cell (p := ⟨p, 1, none⟩) (lt_of_cell HP.out.1)]; exact HP.out.1
      go_simp
      exact hK _ _ (Below.refl _ _) rfl
    · refine opM_yes rfl rfl rfl (by kernel_rfl) (fun v w h => h) (fun a w' hS hf K hK => ?_)
      have s0 : a.tmps.getD 0 undef = (.pointer (some ⟨p, 1, none⟩)) := (hS.rest 0 (by kernel_rfl)).trans rfl
      go_simp
      exact hK _ _ (Below.refl _ _) rfl
    · refine opM_yes rfl rfl rfl (by kernel_rfl) (fun v w h => h) (fun a w' hS hf K hK => ?_)
      have s19 : a.tmps.getD 19 undef = (.pointer (some ⟨p, 1, none⟩)) := hf 14 (by kernel_rfl) _ 19 rfl rfl
      go_simp
      exact hK _ _ (Below.refl _ _) rfl
    · refine opM_yes rfl rfl rfl (by kernel_rfl) (fun v w h => h) (fun a w' hS hf K hK => ?_)
      have s20 : a.tmps.getD 20 undef = (.pointer (some ⟨p, 1, none⟩)) := hf 15 (by kernel_rfl) _ 20 rfl rfl
      go_simp
      exact hK _ _ (Below.refl _ _) rfl
    · refine opM_yes rfl rfl rfl (by kernel_rfl) (fun v w h => h) (fun a w' hS hf K hK => ?_)
      have s21 : a.tmps.getD 21 undef = (.pointer (some ⟨p, 2, none⟩)) := hf 16 (by kernel_rfl) _ 21 rfl rfl
      have c : w'.cell? ⟨p, 2, none⟩ = some (.float .f32 s) := by rw [hS.below.cell (p := ⟨p, 2, none⟩) (lt_of_cell HP.out.1)]; exact HP.out.2.1
      go_simp
      exact hK _ _ (Below.refl _ _) rfl
    · refine opM_yes rfl rfl rfl (by kernel_rfl) (fun v w h => h) (fun a w' hS hf K hK => ?_)
      have s18 : a.tmps.getD 18 undef = (.float .f32 l) := hf 13 (by kernel_rfl) _ 18 rfl rfl
      have s22 : a.tmps.getD 22 undef = (.float .f32 s) := hf 17 (by kernel_rfl) _ 22 rfl rfl
      have HN := ((NumsIn.new w' [l, s] 23).fsl (n := 2) rfl)
      have q0 : a.tmps[18]?.getD undef = .float .f32 l := by rw [← Array.getD_eq_getD_getElem?]; assumption
      have q1 : a.tmps[22]?.getD undef = .float .f32 s := by rw [← Array.getD_eq_getD_getElem?]; assumption
      go_simp
      exact hK _ _ ((Below.refl _ _).alloc (Nat.le_refl _) _) ⟨w'.heap.size, rfl, HN⟩
    · refine opM_yes rfl rfl rfl (by kernel_rfl) (fun v w h => h) (fun a w' hS hf K hK => ?_)
      have s1 : a.tmps.getD 1 undef = (.pointer (some ⟨p', 1, none⟩)) := (hS.rest 1 (by kernel_rfl)).trans rfl
      go_simp
      exact hK _ _ (Below.refl _ _) rfl
    · refine opM_yes rfl rfl rfl (by kernel_rfl) (fun v w h => h) (fun a w' hS hf K hK => ?_)
      have s24 : a.tmps.getD 24 undef = (.pointer (some ⟨p', 1, none⟩)) := hf 19 (by kernel_rfl) _ 24 rfl rfl
      go_simp
      exact hK _ _ (Below.refl _ _) rfl
    · refine opM_yes rfl rfl rfl (by kernel_rfl) (fun v w h => h) (fun a w' hS hf K hK => ?_)
      have s25 : a.tmps.getD 25 undef = (.pointer (some ⟨p', 1, none⟩)) := hf 20 (by kernel_rfl) _ 25 rfl rfl
      go_simp
      exact hK _ _ (Below.refl _ _) rfl
    · refine opM_yes rfl rfl rfl (by kernel_rfl) (fun v w h => h) (fun a w' hS hf K hK => ?_)
      have s26 : a.tmps.getD 26 undef = (.pointer (some ⟨p', 1, none⟩)) := hf 21 (by kernel_rfl) _ 26 rfl rfl
      have c : w'.cell? ⟨p', 1, none⟩ = some (.float .f32 l') := by rw [hS.below.cell (p := ⟨p', 1, none⟩) (lt_of_cell HP'.out.1)]; exact HP'.out.1
      go_simp
      exact hK _ _ (Below.refl _ _) rfl
    · refine opM_yes rfl rfl rfl (by kernel_rfl) (fun v w h => h) (fun a w' hS hf K hK => ?_)
      have s1 : a.tmps.getD 1 undef = (.pointer (some ⟨p', 1, none⟩)) := (hS.rest 1 (by kernel_rfl)).trans rfl
      go_simp
      exact hK _ _ (Below.refl _ _) rfl
    · refine opM_yes rfl rfl rfl (by kernel_rfl) (fun v w h => h) (fun a w' hS hf K hK => ?_)
      have s28 : a.tmps.getD 28 undef = (.pointer (some ⟨p', 1, none⟩)) := hf 23 (by kernel_rfl) _ 28 rfl rfl
      go_simp
      exact hK _ _ (Below.refl _ _) rfl
    · refine opM_yes rfl rfl rfl (by kernel_rfl) (fun v w h => h) (fun a w' hS hf K hK => ?_)
      have s29 : a.tmps.getD 29 undef = (.pointer (some ⟨p', 1, none⟩)) := hf 24 (by kernel_rfl) _ 29 rfl rfl
      go_simp
      exact hK _ _ (Below.refl _ _) rfl
    · refine opM_yes rfl rfl rfl (by kernel_rfl) (fun v w h => h) (fun a w' hS hf K hK => ?_)
      have s30 : a.tmps.getD 30 undef = (.pointer (some ⟨p', 2, none⟩)) := hf 25 (by kernel_rfl) _ 30 rfl rfl
      have c : w'.cell? ⟨p', 2, none⟩ = some (.float .f32 s') := by rw [hS.below.cell (p := ⟨p', 2, none⟩) (lt_of_cell HP'.out.1)]; exact HP'.out.2.1
      go_simp
      exact hK _ _ (Below.refl _ _) rfl
    · refine opM_yes rfl rfl rfl (by kernel_rfl) (fun v w h => h) (fun a w' hS hf K hK => ?_)
      have s27 : a.tmps.getD 27 undef = (.float .f32 l') := hf 22 (by kernel_rfl) _ 27 rfl rfl
      have s31 : a.tmps.getD 31 undef = (.float .f32 s') := hf 26 (by kernel_rfl) _ 31 rfl rfl
      have HN := ((NumsIn.new w' [l', s'] 23).fsl (n := 2) rfl)
      have q0 : a.tmps[27]?.getD undef = .float .f32 l' := by rw [← Array.getD_eq_getD_getElem?]; assumption
      have q1 : a.tmps[31]?.getD undef = .float .f32 s' := by rw [← Array.getD_eq_getD_getElem?]; assumption
      go_simp
      exact hK _ _ ((Below.refl _ _).alloc (Nat.le_refl _) _) ⟨w'.heap.size, rfl, HN⟩
    · refine opM_yes rfl rfl rfl (by kernel_rfl) (fun v w h => h) (fun a w' hS hf K hK => ?_)
      obtain ⟨g23, s23, h23⟩ := (show ∃ g, (a.tmps.getD 23 undef) = .slice (some ⟨g, 0, none⟩) 2 2 ∧ FSl w' (some ⟨g, 0, none⟩) 2 [l, s] from hf 18 (by kernel_rfl) _ 23 rfl rfl)
      obtain ⟨g32, s32, h32⟩ := (show ∃ g, (a.tmps.getD 32 undef) = .slice (some ⟨g, 0, none⟩) 2 2 ∧ FSl w' (some ⟨g, 0, none⟩) 2 [l', s'] from hf 27 (by kernel_rfl) _ 32 rfl rfl)
      clear hf hS
      go_simp
      refine (spAll_any _ _ 2 2 2 2 [l, s] [l', s'] _ h23 h32 (by omega) (by omega)).mono ?_
      rw [HQ.out]
      rintro e u ⟨n1, rfl, rfl⟩
      exact hK _ _ (below_drewN (Below.refl _ _) n1) rfl
    · refine opM_do rfl (fun a w' hS hf K hK => ?_)
      have s14 : a.tmps.getD 14 undef = (.bool true) := hf 9 (by kernel_rfl) _ 14 rfl rfl
      have s33 : a.tmps.getD 33 undef = (.bool false) := hf 28 (by kernel_rfl) _ 33 rfl rfl
      go_simp
      exact hK _ _ (Below.refl _ _) rfl
    · refine opM_do rfl (fun a w' hS hf K hK => ?_)
      have s34 : a.tmps.getD 34 undef = (.bool false) := hf 29 (by kernel_rfl) _ 34 rfl rfl
      go_simp
      exact hK _ _ (Below.refl _ _) rfl
    · exact opM_no rfl rfl rfl (by kernel_rfl) (fun v w h => h) (fun w => rfl)
    · exact opM_no rfl rfl rfl (by kernel_rfl) (fun v w h => h) (fun w => rfl)
    · exact opM_no rfl rfl rfl (by kernel_rfl) (fun v w h => h) (fun w => rfl)
    · exact opM_no rfl rfl rfl (by kernel_rfl) (fun v w h => h) (fun w => rfl)
    · exact opM_no rfl rfl rfl (by kernel_rfl) (fun v w h => h) (fun w => rfl)
    · exact opM_no rfl rfl rfl (by kernel_rfl) (fun v w h => h) (fun w => rfl)
    · exact opM_no rfl rfl rfl (by kernel_rfl) (fun v w h => h) (fun w => rfl)
    · exact opM_no rfl rfl rfl (by kernel_rfl) (fun v w h => h) (fun w => rfl)
    · exact opM_no rfl rfl rfl (by kernel_rfl) (fun v w h => h) (fun w => rfl)
    · refine opM_do rfl (fun a w' hS hf K hK => ?_)
      have s35 : a.tmps.getD 35 undef = (.bool false) := hf 30 (by kernel_rfl) _ 35 rfl rfl
      have s44 : a.tmps.getD 44 undef = undef := hf 39 (by kernel_rfl) _ 44 rfl rfl
      go_simp
      exact hK _ _ (Below.refl _ _) rfl
    · refine opM_do rfl (fun a w' hS hf K hK => ?_)
      have s45 : a.tmps.getD 45 undef = (.bool false) := hf 40 (by kernel_rfl) _ 45 rfl rfl
      go_simp
      exact hK _ _ (Below.refl _ _) rfl
  · intro a w' hS hF
    have e4 : a.tmps.getD 4 undef = (.bool false) := hF 41 _ 4 rfl rfl
    have hdf := hS.defers
    have HB := Lib.hid (show Below w.heap.size w w' from (below_drewN (Below.refl _ _) 1).trans hS.below)
    obtain ⟨tm, df⟩ := a
    simp only at e4 hdf
    subst hdf
    clear hF hS
    go_wp2
    go_ret
    exact ⟨congrArg Ending.returned e4, HB.out⟩
end Go.Proofs.Ytdjlakjjgkhlmaa
