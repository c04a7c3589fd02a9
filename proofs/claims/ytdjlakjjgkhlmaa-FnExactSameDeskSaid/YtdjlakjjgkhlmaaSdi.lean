/-
  SameDesk of the program.
-/
import Derived.Test.YtdjlakjjgkhlmaaSdn
import Derived.Test.YtdjlakjjgkhlmaaSms
namespace Go.Proofs.Ytdjlakjjgkhlmaa
open Ieee Go.RowKit
set_option linter.unusedVariables false
def sdim0 (p : Nat) (a0 : Option Addr) (len0 cap0 : Nat) (z0 : List Nat) (l s : Nat) (a : Option Addr) (len cap : Nat) (zs : List Nat) (t : Int) (b0 b1 b2 b3 : Nat) (y : Int) (a0' : Option Addr) (len0' cap0' : Nat) (z0' : List Nat) (l' s' : Nat) (a' : Option Addr) (len' cap' : Nat) (zs' : List Nat) (t' : Int) (b0' b1' b2' b3' : Nat) (y' : Int) : Nat → Value → World → Prop
  | 0, v, w => v = (.pointer (some ⟨p, 9, none⟩))
  | 1, v, w => v = (.int .i64 y)
  | 2, v, w => v = (.pointer (some ⟨p + 1, 9, none⟩))
  | 3, v, w => v = (.int .i64 y')
  | 4, v, w => v = (.bool false)
  | 5, v, w => v = (.bool false)
  | 6, v, w => v = undef
  | 7, v, w => v = undef
  | 8, v, w => v = undef
  | 9, v, w => v = undef
  | 10, v, w => v = undef
  | 11, v, w => v = (.bool false)
  | 12, v, w => v = (.bool false)
  | 13, v, w => v = undef
  | 14, v, w => v = undef
  | 15, v, w => v = undef
  | 16, v, w => v = undef
  | 17, v, w => v = undef
  | 18, v, w => v = (.bool false)
  | 19, v, w => v = (.bool false)
  | 20, v, w => v = undef
  | 21, v, w => v = undef
  | 22, v, w => v = undef
  | 23, v, w => v = undef
  | 24, v, w => v = undef
  | 25, v, w => v = undef
  | 26, v, w => v = undef
  | 27, v, w => v = (.bool false)
  | 28, v, w => v = (.bool false)
  | _, _, _ => True
theorem sdim0_mono (p : Nat) (a0 : Option Addr) (len0 cap0 : Nat) (z0 : List Nat) (l s : Nat) (a : Option Addr) (len cap : Nat) (zs : List Nat) (t : Int) (b0 b1 b2 b3 : Nat) (y : Int) (a0' : Option Addr) (len0' cap0' : Nat) (z0' : List Nat) (l' s' : Nat) (a' : Option Addr) (len' cap' : Nat) (zs' : List Nat) (t' : Int) (b0' b1' b2' b3' : Nat) (y' : Int) : ∀ i v w w', sdim0 p a0 len0 cap0 z0 l s a len cap zs t b0 b1 b2 b3 y a0' len0' cap0' z0' l' s' a' len' cap' zs' t' b0' b1' b2' b3' y' i v w → Below w.heap.size w w' → sdim0 p a0 len0 cap0 z0 l s a len cap zs t b0 b1 b2 b3 y a0' len0' cap0' z0' l' s' a' len' cap' zs' t' b0' b1' b2' b3' y' i v w'
  := by
  intro i v w w' h hb
  unfold sdim0 at *
  split
  · exact h
  · exact h
  · exact h
  · exact h
  · exact h
  · exact h
  · exact h
  · exact h
  · exact h
  · exact h
  · exact h
  · exact h
  · exact h
  · exact h
  · exact h
  · exact h
  · exact h
  · exact h
  · exact h
  · exact h
  · exact h
  · exact h
  · exact h
  · exact h
  · exact h
  · exact h
  · exact h
  · exact h
  · exact h
  · trivial
set_option maxHeartbeats 2000000 in
set_option maxRecDepth 100000 in
theorem imSd0_any (a0 : Option Addr) (len0 cap0 : Nat) (z0 : List Nat) (l s : Nat) (a : Option Addr) (len cap : Nat) (zs : List Nat) (t : Int) (b0 b1 b2 b3 : Nat) (y : Int) (a0' : Option Addr) (len0' cap0' : Nat) (z0' : List Nat) (l' s' : Nat) (a' : Option Addr) (len' cap' : Nat) (zs' : List Nat) (t' : Int) (b0' b1' b2' b3' : Nat) (y' : Int) (w : World) (h0 : FSl w a0 len0 z0) (h : FSl w a len zs) (h0' : FSl w a0' len0' z0') (h' : FSl w a' len' zs') (hm0 : len0 ≤ 1048576) (hm : len ≤ 1048576) (hm0' : len0' ≤ 1048576) (hm' : len' ≤ 1048576) (e_day : ((y == y')) = false) :
    Calls Try.prog 21 #[.agg #[.slice a0 len0 cap0, .float .f32 l, .float .f32 s, .slice a len cap, .int .i64 t, .float .f32 b0, .float .f32 b1, .float .f32 b2, .float .f32 b3, .int .i64 y], .agg #[.slice a0' len0' cap0', .float .f32 l', .float .f32 s', .slice a' len' cap', .int .i64 t', .float .f32 b0', .float .f32 b1', .float .f32 b2', .float .f32 b3', .int .i64 y']] w fun e w' => e = .returned (.bool false) ∧ Below w.heap.size w w' := by
  have G := Lib.hid (((Below.refl w.heap.size w).alloc (Nat.le_refl _) (.cells #[.slice a0 len0 cap0, .float .f32 l, .float .f32 s, .slice a len cap, .int .i64 t, .float .f32 b0, .float .f32 b1, .float .f32 b2, .float .f32 b3, .int .i64 y] 35)).alloc (by simp) (.cells #[.slice a0' len0' cap0', .float .f32 l', .float .f32 s', .slice a' len' cap', .int .i64 t', .float .f32 b0', .float .f32 b1', .float .f32 b2', .float .f32 b3', .int .i64 y'] 35))
  have C := Lib.hid ((CIs.newAt w [.slice a0 len0 cap0, .float .f32 l, .float .f32 s, .slice a len cap, .int .i64 t, .float .f32 b0, .float .f32 b1, .float .f32 b2, .float .f32 b3, .int .i64 y] 35 rfl).alloc (.cells #[.slice a0' len0' cap0', .float .f32 l', .float .f32 s', .slice a' len' cap', .int .i64 t', .float .f32 b0', .float .f32 b1', .float .f32 b2', .float .f32 b3', .int .i64 y'] 35))
  have C' := Lib.hid (CIs.newAt (w.alloc (.cells #[.slice a0 len0 cap0, .float .f32 l, .float .f32 s, .slice a len cap, .int .i64 t, .float .f32 b0, .float .f32 b1, .float .f32 b2, .float .f32 b3, .int .i64 y] 35)) [.slice a0' len0' cap0', .float .f32 l', .float .f32 s', .slice a' len' cap', .int .i64 t', .float .f32 b0', .float .f32 b1', .float .f32 b2', .float .f32 b3', .int .i64 y'] 35 (p := w.heap.size + 1) (by simp))
  have H0 := Lib.hid (FSl.below h0 G.out)
  have H := Lib.hid (FSl.below h G.out)
  have H0' := Lib.hid (FSl.below h0' G.out)
  have H' := Lib.hid (FSl.below h' G.out)
  clear h0 h h0' h'
  have E_day := Lib.hid e_day
  clear e_day
  go_enter Try.func21, Try.ntmps21
  go_upto_region 1 with fail
  generalize ((w.alloc (.cells #[.slice a0 len0 cap0, .float .f32 l, .float .f32 s, .slice a len cap, .int .i64 t, .float .f32 b0, .float .f32 b1, .float .f32 b2, .float .f32 b3, .int .i64 y] 35)).alloc (.cells #[.slice a0' len0' cap0', .float .f32 l', .float .f32 s', .slice a' len' cap', .int .i64 t', .float .f32 b0', .float .f32 b1', .float .f32 b2', .float .f32 b3', .int .i64 y'] 35)) = W at *
  refine wp_region_M (sdim0 w.heap.size a0 len0 cap0 z0 l s a len cap zs t b0 b1 b2 b3 y a0' len0' cap0' z0' l' s' a' len' cap' zs' t' b0' b1' b2' b3' y') (by kernel_rfl) (sdim0_mono w.heap.size a0 len0 cap0 z0 l s a len cap zs t b0 b1 b2 b3 y a0' len0' cap0' z0' l' s' a' len' cap' zs' t' b0' b1' b2' b3' y') (by kernel_rfl) ?_ ?_
  · refine ⟨?_, ?_, ?_, ?_, ?_, ?_, ?_, ?_, ?_, ?_, ?_, ?_, ?_, ?_, ?_, ?_, ?_, ?_, ?_, ?_, ?_, ?_, ?_, ?_, ?_, ?_, ?_, ?_, ?_, trivial⟩
    · refine opM_do rfl (fun a_ w' hS hf K hK => ?_)
      have s2 : a_.tmps.getD 2 undef = (.pointer (some ⟨w.heap.size, 0, none⟩)) := (hS.rest 2 (by kernel_rfl)).trans rfl
      go_simp
      exact hK _ _ (Below.refl _ _) rfl
    · refine opM_do rfl (fun a_ w' hS hf K hK => ?_)
      have s5 : a_.tmps.getD 5 undef = (.pointer (some ⟨w.heap.size, 9, none⟩)) := hf 0 (by kernel_rfl) _ 5 rfl rfl
      obtain ⟨k0, k1, k2, k3, k4, k5, k6, k7, k8, k9⟩ := (CIs.below (CIs.drew C.out) hS.below).c10
      go_simp
      exact hK _ _ (Below.refl _ _) rfl
    · refine opM_do rfl (fun a_ w' hS hf K hK => ?_)
      have s3 : a_.tmps.getD 3 undef = (.pointer (some ⟨w.heap.size + 1, 0, none⟩)) := (hS.rest 3 (by kernel_rfl)).trans rfl
      go_simp
      exact hK _ _ (Below.refl _ _) rfl
    · refine opM_do rfl (fun a_ w' hS hf K hK => ?_)
      have s7 : a_.tmps.getD 7 undef = (.pointer (some ⟨w.heap.size + 1, 9, none⟩)) := hf 2 (by kernel_rfl) _ 7 rfl rfl
      obtain ⟨k0, k1, k2, k3, k4, k5, k6, k7, k8, k9⟩ := (CIs.below (CIs.drew C'.out) hS.below).c10
      go_simp
      exact hK _ _ (Below.refl _ _) rfl
    · refine opM_do rfl (fun a_ w' hS hf K hK => ?_)
      have s6 : a_.tmps.getD 6 undef = (.int .i64 y) := hf 1 (by kernel_rfl) _ 6 rfl rfl
      have s8 : a_.tmps.getD 8 undef = (.int .i64 y') := hf 3 (by kernel_rfl) _ 8 rfl rfl
      have hd := E_day.out
      go_simp
      exact hK _ _ (Below.refl _ _) rfl
    · refine opM_do rfl (fun a_ w' hS hf K hK => ?_)
      have s9 : a_.tmps.getD 9 undef = (.bool false) := hf 4 (by kernel_rfl) _ 9 rfl rfl
      go_simp
      exact hK _ _ (Below.refl _ _) rfl
    · exact opM_no rfl rfl rfl (by kernel_rfl) (fun v w h => h) (fun w => rfl)
    · exact opM_no rfl rfl rfl (by kernel_rfl) (fun v w h => h) (fun w => rfl)
    · exact opM_no rfl rfl rfl (by kernel_rfl) (fun v w h => h) (fun w => rfl)
    · exact opM_no rfl rfl rfl (by kernel_rfl) (fun v w h => h) (fun w => rfl)
    · exact opM_no rfl rfl rfl (by kernel_rfl) (fun v w h => h) (fun w => rfl)
    · refine opM_do rfl (fun a_ w' hS hf K hK => ?_)
      have s10 : a_.tmps.getD 10 undef = (.bool false) := hf 5 (by kernel_rfl) _ 10 rfl rfl
      have s15 : a_.tmps.getD 15 undef = undef := hf 10 (by kernel_rfl) _ 15 rfl rfl
      go_simp
      exact hK _ _ (Below.refl _ _) rfl
    · refine opM_do rfl (fun a_ w' hS hf K hK => ?_)
      have s16 : a_.tmps.getD 16 undef = (.bool false) := hf 11 (by kernel_rfl) _ 16 rfl rfl
      go_simp
      exact hK _ _ (Below.refl _ _) rfl
    · exact opM_no rfl rfl rfl (by kernel_rfl) (fun v w h => h) (fun w => rfl)
    · exact opM_no rfl rfl rfl (by kernel_rfl) (fun v w h => h) (fun w => rfl)
    · exact opM_no rfl rfl rfl (by kernel_rfl) (fun v w h => h) (fun w => rfl)
    · exact opM_no rfl rfl rfl (by kernel_rfl) (fun v w h => h) (fun w => rfl)
    · exact opM_no rfl rfl rfl (by kernel_rfl) (fun v w h => h) (fun w => rfl)
    · refine opM_do rfl (fun a_ w' hS hf K hK => ?_)
      have s17 : a_.tmps.getD 17 undef = (.bool false) := hf 12 (by kernel_rfl) _ 17 rfl rfl
      have s22 : a_.tmps.getD 22 undef = undef := hf 17 (by kernel_rfl) _ 22 rfl rfl
      go_simp
      exact hK _ _ (Below.refl _ _) rfl
    · refine opM_do rfl (fun a_ w' hS hf K hK => ?_)
      have s23 : a_.tmps.getD 23 undef = (.bool false) := hf 18 (by kernel_rfl) _ 23 rfl rfl
      go_simp
      exact hK _ _ (Below.refl _ _) rfl
    · exact opM_no rfl rfl rfl (by kernel_rfl) (fun v w h => h) (fun w => rfl)
    · exact opM_no rfl rfl rfl (by kernel_rfl) (fun v w h => h) (fun w => rfl)
    · exact opM_no rfl rfl rfl (by kernel_rfl) (fun v w h => h) (fun w => rfl)
    · exact opM_no rfl rfl rfl (by kernel_rfl) (fun v w h => h) (fun w => rfl)
    · exact opM_no rfl rfl rfl (by kernel_rfl) (fun v w h => h) (fun w => rfl)
    · exact opM_no rfl rfl rfl (by kernel_rfl) (fun v w h => h) (fun w => rfl)
    · exact opM_no rfl rfl rfl (by kernel_rfl) (fun v w h => h) (fun w => rfl)
    · refine opM_do rfl (fun a_ w' hS hf K hK => ?_)
      have s24 : a_.tmps.getD 24 undef = (.bool false) := hf 19 (by kernel_rfl) _ 24 rfl rfl
      have s31 : a_.tmps.getD 31 undef = undef := hf 26 (by kernel_rfl) _ 31 rfl rfl
      go_simp
      exact hK _ _ (Below.refl _ _) rfl
    · refine opM_do rfl (fun a_ w' hS hf K hK => ?_)
      have s32 : a_.tmps.getD 32 undef = (.bool false) := hf 27 (by kernel_rfl) _ 32 rfl rfl
      go_simp
      exact hK _ _ (Below.refl _ _) rfl
  · intro a_ w' hS hF
    have e4 : a_.tmps.getD 4 undef = (.bool false) := hF 28 _ 4 rfl rfl
    have hdf := hS.defers
    have HB := Lib.hid (show Below w.heap.size w w' from (below_drewN G.out 1).trans (hS.below.mono (below_drewN G.out 1).size))
    obtain ⟨tm, df⟩ := a_
    simp only at e4 hdf
    subst hdf
    clear hF hS
    go_wp2
    go_ret
    exact ⟨congrArg Ending.returned e4, HB.out⟩
def sdim1 (p : Nat) (a0 : Option Addr) (len0 cap0 : Nat) (z0 : List Nat) (l s : Nat) (a : Option Addr) (len cap : Nat) (zs : List Nat) (t : Int) (b0 b1 b2 b3 : Nat) (y : Int) (a0' : Option Addr) (len0' cap0' : Nat) (z0' : List Nat) (l' s' : Nat) (a' : Option Addr) (len' cap' : Nat) (zs' : List Nat) (t' : Int) (b0' b1' b2' b3' : Nat) (y' : Int) : Nat → Value → World → Prop
  | 0, v, w => v = (.pointer (some ⟨p, 9, none⟩))
  | 1, v, w => v = (.int .i64 y)
  | 2, v, w => v = (.pointer (some ⟨p + 1, 9, none⟩))
  | 3, v, w => v = (.int .i64 y')
  | 4, v, w => v = (.bool true)
  | 5, v, w => v = (.bool true)
  | 6, v, w => v = (.pointer (some ⟨p, 1, none⟩))
  | 7, v, w => v = (.agg #[.float .f32 l, .float .f32 s, .slice a len cap, .int .i64 t])
  | 8, v, w => v = (.pointer (some ⟨p + 1, 1, none⟩))
  | 9, v, w => v = (.agg #[.float .f32 l', .float .f32 s', .slice a' len' cap', .int .i64 t'])
  | 10, v, w => v = (.bool false)
  | 11, v, w => v = (.bool false)
  | 12, v, w => v = (.bool false)
  | 13, v, w => v = undef
  | 14, v, w => v = undef
  | 15, v, w => v = undef
  | 16, v, w => v = undef
  | 17, v, w => v = undef
  | 18, v, w => v = (.bool false)
  | 19, v, w => v = (.bool false)
  | 20, v, w => v = undef
  | 21, v, w => v = undef
  | 22, v, w => v = undef
  | 23, v, w => v = undef
  | 24, v, w => v = undef
  | 25, v, w => v = undef
  | 26, v, w => v = undef
  | 27, v, w => v = (.bool false)
  | 28, v, w => v = (.bool false)
  | _, _, _ => True
theorem sdim1_mono (p : Nat) (a0 : Option Addr) (len0 cap0 : Nat) (z0 : List Nat) (l s : Nat) (a : Option Addr) (len cap : Nat) (zs : List Nat) (t : Int) (b0 b1 b2 b3 : Nat) (y : Int) (a0' : Option Addr) (len0' cap0' : Nat) (z0' : List Nat) (l' s' : Nat) (a' : Option Addr) (len' cap' : Nat) (zs' : List Nat) (t' : Int) (b0' b1' b2' b3' : Nat) (y' : Int) : ∀ i v w w', sdim1 p a0 len0 cap0 z0 l s a len cap zs t b0 b1 b2 b3 y a0' len0' cap0' z0' l' s' a' len' cap' zs' t' b0' b1' b2' b3' y' i v w → Below w.heap.size w w' → sdim1 p a0 len0 cap0 z0 l s a len cap zs t b0 b1 b2 b3 y a0' len0' cap0' z0' l' s' a' len' cap' zs' t' b0' b1' b2' b3' y' i v w'
  := by
  intro i v w w' h hb
  unfold sdim1 at *
  split
  · exact h
  · exact h
  · exact h
  · exact h
  · exact h
  · exact h
  · exact h
  · exact h
  · exact h
  · exact h
  · exact h
  · exact h
  · exact h
  · exact h
  · exact h
  · exact h
  · exact h
  · exact h
  · exact h
  · exact h
  · exact h
  · exact h
  · exact h
  · exact h
  · exact h
  · exact h
  · exact h
  · exact h
  · exact h
  · trivial
set_option maxHeartbeats 2000000 in
set_option maxRecDepth 100000 in
theorem imSd1_any (a0 : Option Addr) (len0 cap0 : Nat) (z0 : List Nat) (l s : Nat) (a : Option Addr) (len cap : Nat) (zs : List Nat) (t : Int) (b0 b1 b2 b3 : Nat) (y : Int) (a0' : Option Addr) (len0' cap0' : Nat) (z0' : List Nat) (l' s' : Nat) (a' : Option Addr) (len' cap' : Nat) (zs' : List Nat) (t' : Int) (b0' b1' b2' b3' : Nat) (y' : Int) (w : World) (h0 : FSl w a0 len0 z0) (h : FSl w a len zs) (h0' : FSl w a0' len0' z0') (h' : FSl w a' len' zs') (hm0 : len0 ≤ 1048576) (hm : len ≤ 1048576) (hm0' : len0' ≤ 1048576) (hm' : len' ≤ 1048576) (e_day : ((y == y')) = true) (e_state : (smtB l s zs t l' s' zs' t') = false) :
    Calls Try.prog 21 #[.agg #[.slice a0 len0 cap0, .float .f32 l, .float .f32 s, .slice a len cap, .int .i64 t, .float .f32 b0, .float .f32 b1, .float .f32 b2, .float .f32 b3, .int .i64 y], .agg #[.slice a0' len0' cap0', .float .f32 l', .float .f32 s', .slice a' len' cap', .int .i64 t', .float .f32 b0', .float .f32 b1', .float .f32 b2', .float .f32 b3', .int .i64 y']] w fun e w' => e = .returned (.bool false) ∧ Below w.heap.size w w' := by
  have G := Lib.hid (((Below.refl w.heap.size w).alloc (Nat.le_refl _) (.cells #[.slice a0 len0 cap0, .float .f32 l, .float .f32 s, .slice a len cap, .int .i64 t, .float .f32 b0, .float .f32 b1, .float .f32 b2, .float .f32 b3, .int .i64 y] 35)).alloc (by simp) (.cells #[.slice a0' len0' cap0', .float .f32 l', .float .f32 s', .slice a' len' cap', .int .i64 t', .float .f32 b0', .float .f32 b1', .float .f32 b2', .float .f32 b3', .int .i64 y'] 35))
  have C := Lib.hid ((CIs.newAt w [.slice a0 len0 cap0, .float .f32 l, .float .f32 s, .slice a len cap, .int .i64 t, .float .f32 b0, .float .f32 b1, .float .f32 b2, .float .f32 b3, .int .i64 y] 35 rfl).alloc (.cells #[.slice a0' len0' cap0', .float .f32 l', .float .f32 s', .slice a' len' cap', .int .i64 t', .float .f32 b0', .float .f32 b1', .float .f32 b2', .float .f32 b3', .int .i64 y'] 35))
  have C' := Lib.hid (CIs.newAt (w.alloc (.cells #[.slice a0 len0 cap0, .float .f32 l, .float .f32 s, .slice a len cap, .int .i64 t, .float .f32 b0, .float .f32 b1, .float .f32 b2, .float .f32 b3, .int .i64 y] 35)) [.slice a0' len0' cap0', .float .f32 l', .float .f32 s', .slice a' len' cap', .int .i64 t', .float .f32 b0', .float .f32 b1', .float .f32 b2', .float .f32 b3', .int .i64 y'] 35 (p := w.heap.size + 1) (by simp))
  have H0 := Lib.hid (FSl.below h0 G.out)
  have H := Lib.hid (FSl.below h G.out)
  have H0' := Lib.hid (FSl.below h0' G.out)
  have H' := Lib.hid (FSl.below h' G.out)
  clear h0 h h0' h'
  have E_day := Lib.hid e_day
  clear e_day
  have E_state := Lib.hid e_state
  clear e_state
  go_enter Try.func21, Try.ntmps21
  go_upto_region 1 with fail
  generalize ((w.alloc (.cells #[.slice a0 len0 cap0, .float .f32 l, .float .f32 s, .slice a len cap, .int .i64 t, .float .f32 b0, .float .f32 b1, .float .f32 b2, .float .f32 b3, .int .i64 y] 35)).alloc (.cells #[.slice a0' len0' cap0', .float .f32 l', .float .f32 s', .slice a' len' cap', .int .i64 t', .float .f32 b0', .float .f32 b1', .float .f32 b2', .float .f32 b3', .int .i64 y'] 35)) = W at *
  refine wp_region_M (sdim1 w.heap.size a0 len0 cap0 z0 l s a len cap zs t b0 b1 b2 b3 y a0' len0' cap0' z0' l' s' a' len' cap' zs' t' b0' b1' b2' b3' y') (by kernel_rfl) (sdim1_mono w.heap.size a0 len0 cap0 z0 l s a len cap zs t b0 b1 b2 b3 y a0' len0' cap0' z0' l' s' a' len' cap' zs' t' b0' b1' b2' b3' y') (by kernel_rfl) ?_ ?_
  · refine ⟨?_, ?_, ?_, ?_, ?_, ?_, ?_, ?_, ?_, ?_, ?_, ?_, ?_, ?_, ?_, ?_, ?_, ?_, ?_, ?_, ?_, ?_, ?_, ?_, ?_, ?_, ?_, ?_, ?_, trivial⟩
    · refine opM_do rfl (fun a_ w' hS hf K hK => ?_)
      have s2 : a_.tmps.getD 2 undef = (.pointer (some ⟨w.heap.size, 0, none⟩)) := (hS.rest 2 (by kernel_rfl)).trans rfl
      go_simp
      exact hK _ _ (Below.refl _ _) rfl
    · refine opM_do rfl (fun a_ w' hS hf K hK => ?_)
      have s5 : a_.tmps.getD 5 undef = (.pointer (some ⟨w.heap.size, 9, none⟩)) := hf 0 (by kernel_rfl) _ 5 rfl rfl
      obtain ⟨k0, k1, k2, k3, k4, k5, k6, k7, k8, k9⟩ := (CIs.below (CIs.drew C.out) hS.below).c10
      go_simp
      exact hK _ _ (Below.refl _ _) rfl
    · refine opM_do rfl (fun a_ w' hS hf K hK => ?_)
      have s3 : a_.tmps.getD 3 undef = (.pointer (some ⟨w.heap.size + 1, 0, none⟩)) := (hS.rest 3 (by kernel_rfl)).trans rfl
      go_simp
      exact hK _ _ (Below.refl _ _) rfl
    · refine opM_do rfl (fun a_ w' hS hf K hK => ?_)
      have s7 : a_.tmps.getD 7 undef = (.pointer (some ⟨w.heap.size + 1, 9, none⟩)) := hf 2 (by kernel_rfl) _ 7 rfl rfl
      obtain ⟨k0, k1, k2, k3, k4, k5, k6, k7, k8, k9⟩ := (CIs.below (CIs.drew C'.out) hS.below).c10
      go_simp
      exact hK _ _ (Below.refl _ _) rfl
    · refine opM_do rfl (fun a_ w' hS hf K hK => ?_)
      have s6 : a_.tmps.getD 6 undef = (.int .i64 y) := hf 1 (by kernel_rfl) _ 6 rfl rfl
      have s8 : a_.tmps.getD 8 undef = (.int .i64 y') := hf 3 (by kernel_rfl) _ 8 rfl rfl
      have hd := E_day.out
      go_simp
      exact hK _ _ (Below.refl _ _) rfl
    · refine opM_do rfl (fun a_ w' hS hf K hK => ?_)
      have s9 : a_.tmps.getD 9 undef = (.bool true) := hf 4 (by kernel_rfl) _ 9 rfl rfl
      go_simp
      exact hK _ _ (Below.refl _ _) rfl
    · refine opM_yes rfl rfl rfl (by kernel_rfl) (fun v w h => h) (fun a_ w' hS hf K hK => ?_)
      have s2 : a_.tmps.getD 2 undef = (.pointer (some ⟨w.heap.size, 0, none⟩)) := (hS.rest 2 (by kernel_rfl)).trans rfl
      go_simp
      exact hK _ _ (Below.refl _ _) rfl
    · refine opM_yes rfl rfl rfl (by kernel_rfl) (fun v w h => h) (fun a_ w' hS hf K hK => ?_)
      have s11 : a_.tmps.getD 11 undef = (.pointer (some ⟨w.heap.size, 1, none⟩)) := hf 6 (by kernel_rfl) _ 11 rfl rfl
      obtain ⟨k0, k1, k2, k3, k4, k5, k6, k7, k8, k9⟩ := (CIs.below (CIs.drew C.out) hS.below).c10
      go_simp
      exact hK _ _ (Below.refl _ _) rfl
    · refine opM_yes rfl rfl rfl (by kernel_rfl) (fun v w h => h) (fun a_ w' hS hf K hK => ?_)
      have s3 : a_.tmps.getD 3 undef = (.pointer (some ⟨w.heap.size + 1, 0, none⟩)) := (hS.rest 3 (by kernel_rfl)).trans rfl
      go_simp
      exact hK _ _ (Below.refl _ _) rfl
    · refine opM_yes rfl rfl rfl (by kernel_rfl) (fun v w h => h) (fun a_ w' hS hf K hK => ?_)
      have s13 : a_.tmps.getD 13 undef = (.pointer (some ⟨w.heap.size + 1, 1, none⟩)) := hf 8 (by kernel_rfl) _ 13 rfl rfl
      obtain ⟨k0, k1, k2, k3, k4, k5, k6, k7, k8, k9⟩ := (CIs.below (CIs.drew C'.out) hS.below).c10
      go_simp
      exact hK _ _ (Below.refl _ _) rfl
    · refine opM_yes rfl rfl rfl (by kernel_rfl) (fun v w h => h) (fun a_ w' hS hf K hK => ?_)
      have s12 : a_.tmps.getD 12 undef = (.agg #[.float .f32 l, .float .f32 s, .slice a len cap, .int .i64 t]) := hf 7 (by kernel_rfl) _ 12 rfl rfl
      have s14 : a_.tmps.getD 14 undef = (.agg #[.float .f32 l', .float .f32 s', .slice a' len' cap', .int .i64 t']) := hf 9 (by kernel_rfl) _ 14 rfl rfl
      have F1 := FSl.below (FSl.drewN H.out 1) hS.below
      have F2 := FSl.below (FSl.drewN H'.out 1) hS.below
      clear hf hS
      go_simp
      refine (imSmt_any _ _ _ _ _ zs _ _ _ _ _ _ zs' _ _ F1 F2 hm hm').mono ?_
      rw [E_state.out]
      rintro e u ⟨rfl, bb⟩
      exact hK _ _ bb rfl
    · refine opM_do rfl (fun a_ w' hS hf K hK => ?_)
      have s10 : a_.tmps.getD 10 undef = (.bool true) := hf 5 (by kernel_rfl) _ 10 rfl rfl
      have s15 : a_.tmps.getD 15 undef = (.bool false) := hf 10 (by kernel_rfl) _ 15 rfl rfl
      go_simp
      exact hK _ _ (Below.refl _ _) rfl
    · refine opM_do rfl (fun a_ w' hS hf K hK => ?_)
      have s16 : a_.tmps.getD 16 undef = (.bool false) := hf 11 (by kernel_rfl) _ 16 rfl rfl
      go_simp
      exact hK _ _ (Below.refl _ _) rfl
    · exact opM_no rfl rfl rfl (by kernel_rfl) (fun v w h => h) (fun w => rfl)
    · exact opM_no rfl rfl rfl (by kernel_rfl) (fun v w h => h) (fun w => rfl)
    · exact opM_no rfl rfl rfl (by kernel_rfl) (fun v w h => h) (fun w => rfl)
    · exact opM_no rfl rfl rfl (by kernel_rfl) (fun v w h => h) (fun w => rfl)
    · exact opM_no rfl rfl rfl (by kernel_rfl) (fun v w h => h) (fun w => rfl)
    · refine opM_do rfl (fun a_ w' hS hf K hK => ?_)
      have s17 : a_.tmps.getD 17 undef = (.bool false) := hf 12 (by kernel_rfl) _ 17 rfl rfl
      have s22 : a_.tmps.getD 22 undef = undef := hf 17 (by kernel_rfl) _ 22 rfl rfl
      go_simp
      exact hK _ _ (Below.refl _ _) rfl
    · refine opM_do rfl (fun a_ w' hS hf K hK => ?_)
      have s23 : a_.tmps.getD 23 undef = (.bool false) := hf 18 (by kernel_rfl) _ 23 rfl rfl
      go_simp
      exact hK _ _ (Below.refl _ _) rfl
    · exact opM_no rfl rfl rfl (by kernel_rfl) (fun v w h => h) (fun w => rfl)
    · exact opM_no rfl rfl rfl (by kernel_rfl) (fun v w h => h) (fun w => rfl)
    · exact opM_no rfl rfl rfl (by kernel_rfl) (fun v w h => h) (fun w => rfl)
    · exact opM_no rfl rfl rfl (by kernel_rfl) (fun v w h => h) (fun w => rfl)
    · exact opM_no rfl rfl rfl (by kernel_rfl) (fun v w h => h) (fun w => rfl)
    · exact opM_no rfl rfl rfl (by kernel_rfl) (fun v w h => h) (fun w => rfl)
    · exact opM_no rfl rfl rfl (by kernel_rfl) (fun v w h => h) (fun w => rfl)
    · refine opM_do rfl (fun a_ w' hS hf K hK => ?_)
      have s24 : a_.tmps.getD 24 undef = (.bool false) := hf 19 (by kernel_rfl) _ 24 rfl rfl
      have s31 : a_.tmps.getD 31 undef = undef := hf 26 (by kernel_rfl) _ 31 rfl rfl
      go_simp
      exact hK _ _ (Below.refl _ _) rfl
    · refine opM_do rfl (fun a_ w' hS hf K hK => ?_)
      have s32 : a_.tmps.getD 32 undef = (.bool false) := hf 27 (by kernel_rfl) _ 32 rfl rfl
      go_simp
      exact hK _ _ (Below.refl _ _) rfl
  · intro a_ w' hS hF
    have e4 : a_.tmps.getD 4 undef = (.bool false) := hF 28 _ 4 rfl rfl
    have hdf := hS.defers
    have HB := Lib.hid (show Below w.heap.size w w' from (below_drewN G.out 1).trans (hS.below.mono (below_drewN G.out 1).size))
    obtain ⟨tm, df⟩ := a_
    simp only at e4 hdf
    subst hdf
    clear hF hS
    go_wp2
    go_ret
    exact ⟨congrArg Ending.returned e4, HB.out⟩
def sdim2 (p : Nat) (a0 : Option Addr) (len0 cap0 : Nat) (z0 : List Nat) (l s : Nat) (a : Option Addr) (len cap : Nat) (zs : List Nat) (t : Int) (b0 b1 b2 b3 : Nat) (y : Int) (a0' : Option Addr) (len0' cap0' : Nat) (z0' : List Nat) (l' s' : Nat) (a' : Option Addr) (len' cap' : Nat) (zs' : List Nat) (t' : Int) (b0' b1' b2' b3' : Nat) (y' : Int) : Nat → Value → World → Prop
  | 0, v, w => v = (.pointer (some ⟨p, 9, none⟩))
  | 1, v, w => v = (.int .i64 y)
  | 2, v, w => v = (.pointer (some ⟨p + 1, 9, none⟩))
  | 3, v, w => v = (.int .i64 y')
  | 4, v, w => v = (.bool true)
  | 5, v, w => v = (.bool true)
  | 6, v, w => v = (.pointer (some ⟨p, 1, none⟩))
  | 7, v, w => v = (.agg #[.float .f32 l, .float .f32 s, .slice a len cap, .int .i64 t])
  | 8, v, w => v = (.pointer (some ⟨p + 1, 1, none⟩))
  | 9, v, w => v = (.agg #[.float .f32 l', .float .f32 s', .slice a' len' cap', .int .i64 t'])
  | 10, v, w => v = (.bool true)
  | 11, v, w => v = (.bool true)
  | 12, v, w => v = (.bool true)
  | 13, v, w => v = (.pointer (some ⟨p, 0, none⟩))
  | 14, v, w => v = (.slice a0 len0 cap0)
  | 15, v, w => v = (.pointer (some ⟨p + 1, 0, none⟩))
  | 16, v, w => v = (.slice a0' len0' cap0')
  | 17, v, w => v = (.bool false)
  | 18, v, w => v = (.bool false)
  | 19, v, w => v = (.bool false)
  | 20, v, w => v = undef
  | 21, v, w => v = undef
  | 22, v, w => v = undef
  | 23, v, w => v = undef
  | 24, v, w => v = undef
  | 25, v, w => v = undef
  | 26, v, w => v = undef
  | 27, v, w => v = (.bool false)
  | 28, v, w => v = (.bool false)
  | _, _, _ => True
theorem sdim2_mono (p : Nat) (a0 : Option Addr) (len0 cap0 : Nat) (z0 : List Nat) (l s : Nat) (a : Option Addr) (len cap : Nat) (zs : List Nat) (t : Int) (b0 b1 b2 b3 : Nat) (y : Int) (a0' : Option Addr) (len0' cap0' : Nat) (z0' : List Nat) (l' s' : Nat) (a' : Option Addr) (len' cap' : Nat) (zs' : List Nat) (t' : Int) (b0' b1' b2' b3' : Nat) (y' : Int) : ∀ i v w w', sdim2 p a0 len0 cap0 z0 l s a len cap zs t b0 b1 b2 b3 y a0' len0' cap0' z0' l' s' a' len' cap' zs' t' b0' b1' b2' b3' y' i v w → Below w.heap.size w w' → sdim2 p a0 len0 cap0 z0 l s a len cap zs t b0 b1 b2 b3 y a0' len0' cap0' z0' l' s' a' len' cap' zs' t' b0' b1' b2' b3' y' i v w'
  := by
  intro i v w w' h hb
  unfold sdim2 at *
  split
  · exact h
  · exact h
  · exact h
  · exact h
  · exact h
  · exact h
  · exact h
  · exact h
  · exact h
  · exact h
  · exact h
  · exact h
  · exact h
  · exact h
  · exact h
  · exact h
  · exact h
  · exact h
  · exact h
  · exact h
  · exact h
  · exact h
  · exact h
  · exact h
  · exact h
  · exact h
  · exact h
  · exact h
  · exact h
  · trivial
set_option maxHeartbeats 2000000 in
set_option maxRecDepth 100000 in
theorem imSd2_any (a0 : Option Addr) (len0 cap0 : Nat) (z0 : List Nat) (l s : Nat) (a : Option Addr) (len cap : Nat) (zs : List Nat) (t : Int) (b0 b1 b2 b3 : Nat) (y : Int) (a0' : Option Addr) (len0' cap0' : Nat) (z0' : List Nat) (l' s' : Nat) (a' : Option Addr) (len' cap' : Nat) (zs' : List Nat) (t' : Int) (b0' b1' b2' b3' : Nat) (y' : Int) (w : World) (h0 : FSl w a0 len0 z0) (h : FSl w a len zs) (h0' : FSl w a0' len0' z0') (h' : FSl w a' len' zs') (hm0 : len0 ≤ 1048576) (hm : len ≤ 1048576) (hm0' : len0' ≤ 1048576) (hm' : len' ≤ 1048576) (e_day : ((y == y')) = true) (e_state : (smtB l s zs t l' s' zs' t') = true) (e_series : (allB z0 z0') = false) :
    Calls Try.prog 21 #[.agg #[.slice a0 len0 cap0, .float .f32 l, .float .f32 s, .slice a len cap, .int .i64 t, .float .f32 b0, .float .f32 b1, .float .f32 b2, .float .f32 b3, .int .i64 y], .agg #[.slice a0' len0' cap0', .float .f32 l', .float .f32 s', .slice a' len' cap', .int .i64 t', .float .f32 b0', .float .f32 b1', .float .f32 b2', .float .f32 b3', .int .i64 y']] w fun e w' => e = .returned (.bool false) ∧ Below w.heap.size w w' := by
  have G := Lib.hid (((Below.refl w.heap.size w).alloc (Nat.le_refl _) (.cells #[.slice a0 len0 cap0, .float .f32 l, .float .f32 s, .slice a len cap, .int .i64 t, .float .f32 b0, .float .f32 b1, .float .f32 b2, .float .f32 b3, .int .i64 y] 35)).alloc (by simp) (.cells #[.slice a0' len0' cap0', .float .f32 l', .float .f32 s', .slice a' len' cap', .int .i64 t', .float .f32 b0', .float .f32 b1', .float .f32 b2', .float .f32 b3', .int .i64 y'] 35))
  have C := Lib.hid ((CIs.newAt w [.slice a0 len0 cap0, .float .f32 l, .float .f32 s, .slice a len cap, .int .i64 t, .float .f32 b0, .float .f32 b1, .float .f32 b2, .float .f32 b3, .int .i64 y] 35 rfl).alloc (.cells #[.slice a0' len0' cap0', .float .f32 l', .float .f32 s', .slice a' len' cap', .int .i64 t', .float .f32 b0', .float .f32 b1', .float .f32 b2', .float .f32 b3', .int .i64 y'] 35))
  have C' := Lib.hid (CIs.newAt (w.alloc (.cells #[.slice a0 len0 cap0, .float .f32 l, .float .f32 s, .slice a len cap, .int .i64 t, .float .f32 b0, .float .f32 b1, .float .f32 b2, .float .f32 b3, .int .i64 y] 35)) [.slice a0' len0' cap0', .float .f32 l', .float .f32 s', .slice a' len' cap', .int .i64 t', .float .f32 b0', .float .f32 b1', .float .f32 b2', .float .f32 b3', .int .i64 y'] 35 (p := w.heap.size + 1) (by simp))
  have H0 := Lib.hid (FSl.below h0 G.out)
  have H := Lib.hid (FSl.below h G.out)
  have H0' := Lib.hid (FSl.below h0' G.out)
  have H' := Lib.hid (FSl.below h' G.out)
  clear h0 h h0' h'
  have E_day := Lib.hid e_day
  clear e_day
  have E_state := Lib.hid e_state
  clear e_state
  have E_series := Lib.hid e_series
  clear e_series
  go_enter Try.func21, Try.ntmps21
  go_upto_region 1 with fail
  generalize ((w.alloc (.cells #[.slice a0 len0 cap0, .float .f32 l, .float .f32 s, .slice a len cap, .int .i64 t, .float .f32 b0, .float .f32 b1, .float .f32 b2, .float .f32 b3, .int .i64 y] 35)).alloc (.cells #[.slice a0' len0' cap0', .float .f32 l', .float .f32 s', .slice a' len' cap', .int .i64 t', .float .f32 b0', .float .f32 b1', .float .f32 b2', .float .f32 b3', .int .i64 y'] 35)) = W at *
  refine wp_region_M (sdim2 w.heap.size a0 len0 cap0 z0 l s a len cap zs t b0 b1 b2 b3 y a0' len0' cap0' z0' l' s' a' len' cap' zs' t' b0' b1' b2' b3' y') (by kernel_rfl) (sdim2_mono w.heap.size a0 len0 cap0 z0 l s a len cap zs t b0 b1 b2 b3 y a0' len0' cap0' z0' l' s' a' len' cap' zs' t' b0' b1' b2' b3' y') (by kernel_rfl) ?_ ?_
  · refine ⟨?_, ?_, ?_, ?_, ?_, ?_, ?_, ?_, ?_, ?_, ?_, ?_, ?_, ?_, ?_, ?_, ?_, ?_, ?_, ?_, ?_, ?_, ?_, ?_, ?_, ?_, ?_, ?_, ?_, trivial⟩
    · refine opM_do rfl (fun a_ w' hS hf K hK => ?_)
      have s2 : a_.tmps.getD 2 undef = (.pointer (some ⟨w.heap.size, 0, none⟩)) := (hS.rest 2 (by kernel_rfl)).trans rfl
      go_simp
      exact hK _ _ (Below.refl _ _) rfl
    · refine opM_do rfl (fun a_ w' hS hf K hK => ?_)
      have s5 : a_.tmps.getD 5 undef = (.pointer (some ⟨w.heap.size, 9, none⟩)) := hf 0 (by kernel_rfl) _ 5 rfl rfl
      obtain ⟨k0, k1, k2, k3, k4, k5, k6, k7, k8, k9⟩ := (CIs.below (CIs.drew C.out) hS.below).c10
      go_simp
      exact hK _ _ (Below.refl _ _) rfl
    · refine opM_do rfl (fun a_ w' hS hf K hK => ?_)
      have s3 : a_.tmps.getD 3 undef = (.pointer (some ⟨w.heap.size + 1, 0, none⟩)) := (hS.rest 3 (by kernel_rfl)).trans rfl
      go_simp
      exact hK _ _ (Below.refl _ _) rfl
    · refine opM_do rfl (fun a_ w' hS hf K hK => ?_)
      have s7 : a_.tmps.getD 7 undef = (.pointer (some ⟨w.heap.size + 1, 9, none⟩)) := hf 2 (by kernel_rfl) _ 7 rfl rfl
      obtain ⟨k0, k1, k2, k3, k4, k5, k6, k7, k8, k9⟩ := (CIs.below (CIs.drew C'.out) hS.below).c10
      go_simp
      exact hK _ _ (Below.refl _ _) rfl
    · refine opM_do rfl (fun a_ w' hS hf K hK => ?_)
      have s6 : a_.tmps.getD 6 undef = (.int .i64 y) := hf 1 (by kernel_rfl) _ 6 rfl rfl
      have s8 : a_.tmps.getD 8 undef = (.int .i64 y') := hf 3 (by kernel_rfl) _ 8 rfl rfl
      have hd := E_day.out
      go_simp
      exact hK _ _ (Below.refl _ _) rfl
    · refine opM_do rfl (fun a_ w' hS hf K hK => ?_)
      have s9 : a_.tmps.getD 9 undef = (.bool true) := hf 4 (by kernel_rfl) _ 9 rfl rfl
      go_simp
      exact hK _ _ (Below.refl _ _) rfl
    · refine opM_yes rfl rfl rfl (by kernel_rfl) (fun v w h => h) (fun a_ w' hS hf K hK => ?_)
      have s2 : a_.tmps.getD 2 undef = (.pointer (some ⟨w.heap.size, 0, none⟩)) := (hS.rest 2 (by kernel_rfl)).trans rfl
      go_simp
      exact hK _ _ (Below.refl _ _) rfl
    · refine opM_yes rfl rfl rfl (by kernel_rfl) (fun v w h => h) (fun a_ w' hS hf K hK => ?_)
      have s11 : a_.tmps.getD 11 undef = (.pointer (some ⟨w.heap.size, 1, none⟩)) := hf 6 (by kernel_rfl) _ 11 rfl rfl
      obtain ⟨k0, k1, k2, k3, k4, k5, k6, k7, k8, k9⟩ := (CIs.below (CIs.drew C.out) hS.below).c10
      go_simp
      exact hK _ _ (Below.refl _ _) rfl
    · refine opM_yes rfl rfl rfl (by kernel_rfl) (fun v w h => h) (fun a_ w' hS hf K hK => ?_)
      have s3 : a_.tmps.getD 3 undef = (.pointer (some ⟨w.heap.size + 1, 0, none⟩)) := (hS.rest 3 (by kernel_rfl)).trans rfl
      go_simp
      exact hK _ _ (Below.refl _ _) rfl
    · refine opM_yes rfl rfl rfl (by kernel_rfl) (fun v w h => h) (fun a_ w' hS hf K hK => ?_)
      have s13 : a_.tmps.getD 13 undef = (.pointer (some ⟨w.heap.size + 1, 1, none⟩)) := hf 8 (by kernel_rfl) _ 13 rfl rfl
      obtain ⟨k0, k1, k2, k3, k4, k5, k6, k7, k8, k9⟩ := (CIs.below (CIs.drew C'.out) hS.below).c10
      go_simp
      exact hK _ _ (Below.refl _ _) rfl
    · refine opM_yes rfl rfl rfl (by kernel_rfl) (fun v w h => h) (fun a_ w' hS hf K hK => ?_)
      have s12 : a_.tmps.getD 12 undef = (.agg #[.float .f32 l, .float .f32 s, .slice a len cap, .int .i64 t]) := hf 7 (by kernel_rfl) _ 12 rfl rfl
      have s14 : a_.tmps.getD 14 undef = (.agg #[.float .f32 l', .float .f32 s', .slice a' len' cap', .int .i64 t']) := hf 9 (by kernel_rfl) _ 14 rfl rfl
      have F1 := FSl.below (FSl.drewN H.out 1) hS.below
      have F2 := FSl.below (FSl.drewN H'.out 1) hS.below
      clear hf hS
      go_simp
      refine (imSmt_any _ _ _ _ _ zs _ _ _ _ _ _ zs' _ _ F1 F2 hm hm').mono ?_
      rw [E_state.out]
      rintro e u ⟨rfl, bb⟩
      exact hK _ _ bb rfl
    · refine opM_do rfl (fun a_ w' hS hf K hK => ?_)
      have s10 : a_.tmps.getD 10 undef = (.bool true) := hf 5 (by kernel_rfl) _ 10 rfl rfl
      have s15 : a_.tmps.getD 15 undef = (.bool true) := hf 10 (by kernel_rfl) _ 15 rfl rfl
      go_simp
      exact hK _ _ (Below.refl _ _) rfl
    · refine opM_do rfl (fun a_ w' hS hf K hK => ?_)
      have s16 : a_.tmps.getD 16 undef = (.bool true) := hf 11 (by kernel_rfl) _ 16 rfl rfl
      go_simp
      exact hK _ _ (Below.refl _ _) rfl
    · refine opM_yes rfl rfl rfl (by kernel_rfl) (fun v w h => h) (fun a_ w' hS hf K hK => ?_)
      have s2 : a_.tmps.getD 2 undef = (.pointer (some ⟨w.heap.size, 0, none⟩)) := (hS.rest 2 (by kernel_rfl)).trans rfl
      go_simp
      exact hK _ _ (Below.refl _ _) rfl
    · refine opM_yes rfl rfl rfl (by kernel_rfl) (fun v w h => h) (fun a_ w' hS hf K hK => ?_)
      have s18 : a_.tmps.getD 18 undef = (.pointer (some ⟨w.heap.size, 0, none⟩)) := hf 13 (by kernel_rfl) _ 18 rfl rfl
      obtain ⟨k0, k1, k2, k3, k4, k5, k6, k7, k8, k9⟩ := (CIs.below (CIs.drew C.out) hS.below).c10
      go_simp
      exact hK _ _ (Below.refl _ _) rfl
    · refine opM_yes rfl rfl rfl (by kernel_rfl) (fun v w h => h) (fun a_ w' hS hf K hK => ?_)
      have s3 : a_.tmps.getD 3 undef = (.pointer (some ⟨w.heap.size + 1, 0, none⟩)) := (hS.rest 3 (by kernel_rfl)).trans rfl
      go_simp
      exact hK _ _ (Below.refl _ _) rfl
    · refine opM_yes rfl rfl rfl (by kernel_rfl) (fun v w h => h) (fun a_ w' hS hf K hK => ?_)
      have s20 : a_.tmps.getD 20 undef = (.pointer (some ⟨w.heap.size + 1, 0, none⟩)) := hf 15 (by kernel_rfl) _ 20 rfl rfl
      obtain ⟨k0, k1, k2, k3, k4, k5, k6, k7, k8, k9⟩ := (CIs.below (CIs.drew C'.out) hS.below).c10
      go_simp
      exact hK _ _ (Below.refl _ _) rfl
    · refine opM_yes rfl rfl rfl (by kernel_rfl) (fun v w h => h) (fun a_ w' hS hf K hK => ?_)
      have s19 : a_.tmps.getD 19 undef = (.slice a0 len0 cap0) := hf 14 (by kernel_rfl) _ 19 rfl rfl
      have s21 : a_.tmps.getD 21 undef = (.slice a0' len0' cap0') := hf 16 (by kernel_rfl) _ 21 rfl rfl
      have F1 := FSl.below (FSl.drewN H0.out 1) hS.below
      have F2 := FSl.below (FSl.drewN H0'.out 1) hS.below
      clear hf hS
      go_simp
      refine (imEql_any _ _ _ _ _ _ z0 z0' _ F1 F2 hm0 hm0').mono ?_
      rw [E_series.out]
      rintro e u ⟨rfl, rfl⟩
      exact hK _ _ (Below.refl _ _) rfl
    · refine opM_do rfl (fun a_ w' hS hf K hK => ?_)
      have s17 : a_.tmps.getD 17 undef = (.bool true) := hf 12 (by kernel_rfl) _ 17 rfl rfl
      have s22 : a_.tmps.getD 22 undef = (.bool false) := hf 17 (by kernel_rfl) _ 22 rfl rfl
      go_simp
      exact hK _ _ (Below.refl _ _) rfl
    · refine opM_do rfl (fun a_ w' hS hf K hK => ?_)
      have s23 : a_.tmps.getD 23 undef = (.bool false) := hf 18 (by kernel_rfl) _ 23 rfl rfl
      go_simp
      exact hK _ _ (Below.refl _ _) rfl
    · exact opM_no rfl rfl rfl (by kernel_rfl) (fun v w h => h) (fun w => rfl)
    · exact opM_no rfl rfl rfl (by kernel_rfl) (fun v w h => h) (fun w => rfl)
    · exact opM_no rfl rfl rfl (by kernel_rfl) (fun v w h => h) (fun w => rfl)
    · exact opM_no rfl rfl rfl (by kernel_rfl) (fun v w h => h) (fun w => rfl)
    · exact opM_no rfl rfl rfl (by kernel_rfl) (fun v w h => h) (fun w => rfl)
    · exact opM_no rfl rfl rfl (by kernel_rfl) (fun v w h => h) (fun w => rfl)
    · exact opM_no rfl rfl rfl (by kernel_rfl) (fun v w h => h) (fun w => rfl)
    · refine opM_do rfl (fun a_ w' hS hf K hK => ?_)
      have s24 : a_.tmps.getD 24 undef = (.bool false) := hf 19 (by kernel_rfl) _ 24 rfl rfl
      have s31 : a_.tmps.getD 31 undef = undef := hf 26 (by kernel_rfl) _ 31 rfl rfl
      go_simp
      exact hK _ _ (Below.refl _ _) rfl
    · refine opM_do rfl (fun a_ w' hS hf K hK => ?_)
      have s32 : a_.tmps.getD 32 undef = (.bool false) := hf 27 (by kernel_rfl) _ 32 rfl rfl
      go_simp
      exact hK _ _ (Below.refl _ _) rfl
  · intro a_ w' hS hF
    have e4 : a_.tmps.getD 4 undef = (.bool false) := hF 28 _ 4 rfl rfl
    have hdf := hS.defers
    have HB := Lib.hid (show Below w.heap.size w w' from (below_drewN G.out 1).trans (hS.below.mono (below_drewN G.out 1).size))
    obtain ⟨tm, df⟩ := a_
    simp only at e4 hdf
    subst hdf
    clear hF hS
    go_wp2
    go_ret
    exact ⟨congrArg Ending.returned e4, HB.out⟩
def sdim3 (p : Nat) (a0 : Option Addr) (len0 cap0 : Nat) (z0 : List Nat) (l s : Nat) (a : Option Addr) (len cap : Nat) (zs : List Nat) (t : Int) (b0 b1 b2 b3 : Nat) (y : Int) (a0' : Option Addr) (len0' cap0' : Nat) (z0' : List Nat) (l' s' : Nat) (a' : Option Addr) (len' cap' : Nat) (zs' : List Nat) (t' : Int) (b0' b1' b2' b3' : Nat) (y' : Int) : Nat → Value → World → Prop
  | 0, v, w => v = (.pointer (some ⟨p, 9, none⟩))
  | 1, v, w => v = (.int .i64 y)
  | 2, v, w => v = (.pointer (some ⟨p + 1, 9, none⟩))
  | 3, v, w => v = (.int .i64 y')
  | 4, v, w => v = (.bool true)
  | 5, v, w => v = (.bool true)
  | 6, v, w => v = (.pointer (some ⟨p, 1, none⟩))
  | 7, v, w => v = (.agg #[.float .f32 l, .float .f32 s, .slice a len cap, .int .i64 t])
  | 8, v, w => v = (.pointer (some ⟨p + 1, 1, none⟩))
  | 9, v, w => v = (.agg #[.float .f32 l', .float .f32 s', .slice a' len' cap', .int .i64 t'])
  | 10, v, w => v = (.bool true)
  | 11, v, w => v = (.bool true)
  | 12, v, w => v = (.bool true)
  | 13, v, w => v = (.pointer (some ⟨p, 0, none⟩))
  | 14, v, w => v = (.slice a0 len0 cap0)
  | 15, v, w => v = (.pointer (some ⟨p + 1, 0, none⟩))
  | 16, v, w => v = (.slice a0' len0' cap0')
  | 17, v, w => v = (.bool true)
  | 18, v, w => v = (.bool true)
  | 19, v, w => v = (.bool true)
  | 20, v, w => v = (.pointer (some ⟨p, 5, none⟩))
  | 21, v, w => v = (.agg #[.float .f32 b0, .float .f32 b1, .float .f32 b2, .float .f32 b3])
  | 22, v, w => ∃ g, v = .slice (some ⟨g, 0, none⟩) 4 4 ∧ FSl w (some ⟨g, 0, none⟩) 4 [b0, b1, b2, b3]
  | 23, v, w => v = (.pointer (some ⟨p + 1, 5, none⟩))
  | 24, v, w => v = (.agg #[.float .f32 b0', .float .f32 b1', .float .f32 b2', .float .f32 b3'])
  | 25, v, w => ∃ g, v = .slice (some ⟨g, 0, none⟩) 4 4 ∧ FSl w (some ⟨g, 0, none⟩) 4 [b0', b1', b2', b3']
  | 26, v, w => v = (.bool (allB [b0, b1, b2, b3] [b0', b1', b2', b3']))
  | 27, v, w => v = (.bool (allB [b0, b1, b2, b3] [b0', b1', b2', b3']))
  | 28, v, w => v = (.bool (allB [b0, b1, b2, b3] [b0', b1', b2', b3']))
  | _, _, _ => True
theorem sdim3_mono (p : Nat) (a0 : Option Addr) (len0 cap0 : Nat) (z0 : List Nat) (l s : Nat) (a : Option Addr) (len cap : Nat) (zs : List Nat) (t : Int) (b0 b1 b2 b3 : Nat) (y : Int) (a0' : Option Addr) (len0' cap0' : Nat) (z0' : List Nat) (l' s' : Nat) (a' : Option Addr) (len' cap' : Nat) (zs' : List Nat) (t' : Int) (b0' b1' b2' b3' : Nat) (y' : Int) : ∀ i v w w', sdim3 p a0 len0 cap0 z0 l s a len cap zs t b0 b1 b2 b3 y a0' len0' cap0' z0' l' s' a' len' cap' zs' t' b0' b1' b2' b3' y' i v w → Below w.heap.size w w' → sdim3 p a0 len0 cap0 z0 l s a len cap zs t b0 b1 b2 b3 y a0' len0' cap0' z0' l' s' a' len' cap' zs' t' b0' b1' b2' b3' y' i v w'
  := by
  intro i v w w' h hb
  unfold sdim3 at *
  split
  · exact h
  · exact h
  · exact h
  · exact h
  · exact h
  · exact h
  · exact h
  · exact h
  · exact h
  · exact h
  · exact h
  · exact h
  · exact h
  · exact h
  · exact h
  · exact h
  · exact h
  · exact h
  · exact h
  · exact h
  · exact h
  · exact h
  · exact (by obtain ⟨g, h1, h2⟩ := h; exact ⟨g, h1, FSl.below h2 hb⟩)
  · exact h
  · exact h
  · exact (by obtain ⟨g, h1, h2⟩ := h; exact ⟨g, h1, FSl.below h2 hb⟩)
  · exact h
  · exact h
  · exact h
  · trivial
set_option maxHeartbeats 2000000 in
set_option maxRecDepth 100000 in
theorem imSd3_any (a0 : Option Addr) (len0 cap0 : Nat) (z0 : List Nat) (l s : Nat) (a : Option Addr) (len cap : Nat) (zs : List Nat) (t : Int) (b0 b1 b2 b3 : Nat) (y : Int) (a0' : Option Addr) (len0' cap0' : Nat) (z0' : List Nat) (l' s' : Nat) (a' : Option Addr) (len' cap' : Nat) (zs' : List Nat) (t' : Int) (b0' b1' b2' b3' : Nat) (y' : Int) (w : World) (h0 : FSl w a0 len0 z0) (h : FSl w a len zs) (h0' : FSl w a0' len0' z0') (h' : FSl w a' len' zs') (hm0 : len0 ≤ 1048576) (hm : len ≤ 1048576) (hm0' : len0' ≤ 1048576) (hm' : len' ≤ 1048576) (e_day : ((y == y')) = true) (e_state : (smtB l s zs t l' s' zs' t') = true) (e_series : (allB z0 z0') = true) :
    Calls Try.prog 21 #[.agg #[.slice a0 len0 cap0, .float .f32 l, .float .f32 s, .slice a len cap, .int .i64 t, .float .f32 b0, .float .f32 b1, .float .f32 b2, .float .f32 b3, .int .i64 y], .agg #[.slice a0' len0' cap0', .float .f32 l', .float .f32 s', .slice a' len' cap', .int .i64 t', .float .f32 b0', .float .f32 b1', .float .f32 b2', .float .f32 b3', .int .i64 y']] w fun e w' => e = .returned (.bool (allB [b0, b1, b2, b3] [b0', b1', b2', b3'])) ∧ Below w.heap.size w w' := by
  have G := Lib.hid (((Below.refl w.heap.size w).alloc (Nat.le_refl _) (.cells #[.slice a0 len0 cap0, .float .f32 l, .float .f32 s, .slice a len cap, .int .i64 t, .float .f32 b0, .float .f32 b1, .float .f32 b2, .float .f32 b3, .int .i64 y] 35)).alloc (by simp) (.cells #[.slice a0' len0' cap0', .float .f32 l', .float .f32 s', .slice a' len' cap', .int .i64 t', .float .f32 b0', .float .f32 b1', .float .f32 b2', .float .f32 b3', .int .i64 y'] 35))
  have C := Lib.hid ((CIs.newAt w [.slice a0 len0 cap0, .float .f32 l, .float .f32 s, .slice a len cap, .int .i64 t, .float .f32 b0, .float .f32 b1, .float .f32 b2, .float .f32 b3, .int .i64 y] 35 rfl).alloc (.cells #[.slice a0' len0' cap0', .float .f32 l', .float .f32 s', .slice a' len' cap', .int .i64 t', .float .f32 b0', .float .f32 b1', .float .f32 b2', .float .f32 b3', .int .i64 y'] 35))
  have C' := Lib.hid (CIs.newAt (w.alloc (.cells #[.slice a0 len0 cap0, .float .f32 l, .float .f32 s, .slice a len cap, .int .i64 t, .float .f32 b0, .float .f32 b1, .float .f32 b2, .float .f32 b3, .int .i64 y] 35)) [.slice a0' len0' cap0', .float .f32 l', .float .f32 s', .slice a' len' cap', .int .i64 t', .float .f32 b0', .float .f32 b1', .float .f32 b2', .float .f32 b3', .int .i64 y'] 35 (p := w.heap.size + 1) (by simp))
  have H0 := Lib.hid (FSl.below h0 G.out)
  have H := Lib.hid (FSl.below h G.out)
  have H0' := Lib.hid (FSl.below h0' G.out)
  have H' := Lib.hid (FSl.below h' G.out)
  clear h0 h h0' h'
  have E_day := Lib.hid e_day
  clear e_day
  have E_state := Lib.hid e_state
  clear e_state
  have E_series := Lib.hid e_series
  clear e_series
  go_enter Try.func21, Try.ntmps21
  go_upto_region 1 with fail
  generalize ((w.alloc (.cells #[.slice a0 len0 cap0, .float .f32 l, .float .f32 s, .slice a len cap, .int .i64 t, .float .f32 b0, .float .f32 b1, .float .f32 b2, .float .f32 b3, .int .i64 y] 35)).alloc (.cells #[.slice a0' len0' cap0', .float .f32 l', .float .f32 s', .slice a' len' cap', .int .i64 t', .float .f32 b0', .float .f32 b1', .float .f32 b2', .float .f32 b3', .int .i64 y'] 35)) = W at *
  refine wp_region_M (sdim3 w.heap.size a0 len0 cap0 z0 l s a len cap zs t b0 b1 b2 b3 y a0' len0' cap0' z0' l' s' a' len' cap' zs' t' b0' b1' b2' b3' y') (by kernel_rfl) (sdim3_mono w.heap.size a0 len0 cap0 z0 l s a len cap zs t b0 b1 b2 b3 y a0' len0' cap0' z0' l' s' a' len' cap' zs' t' b0' b1' b2' b3' y') (by kernel_rfl) ?_ ?_
  · refine ⟨?_, ?_, ?_, ?_, ?_, ?_, ?_, ?_, ?_, ?_, ?_, ?_, ?_, ?_, ?_, ?_, ?_, ?_, ?_, ?_, ?_, ?_, ?_, ?_, ?_, ?_, ?_, ?_, ?_, trivial⟩
    · refine opM_do rfl (fun a_ w' hS hf K hK => ?_)
      have s2 : a_.tmps.getD 2 undef = (.pointer (some ⟨w.heap.size, 0, none⟩)) := (hS.rest 2 (by kernel_rfl)).trans rfl
      go_simp
      exact hK _ _ (Below.refl _ _) rfl
    · refine opM_do rfl (fun a_ w' hS hf K hK => ?_)
      have s5 : a_.tmps.getD 5 undef = (.pointer (some ⟨w.heap.size, 9, none⟩)) := hf 0 (by kernel_rfl) _ 5 rfl rfl
      obtain ⟨k0, k1, k2, k3, k4, k5, k6, k7, k8, k9⟩ := (CIs.below (CIs.drew C.out) hS.below).c10
      go_simp
      exact hK _ _ (Below.refl _ _) rfl
    · refine opM_do rfl (fun a_ w' hS hf K hK => ?_)
      have s3 : a_.tmps.getD 3 undef = (.pointer (some ⟨w.heap.size + 1, 0, none⟩)) := (hS.rest 3 (by kernel_rfl)).trans rfl
      go_simp
      exact hK _ _ (Below.refl _ _) rfl
    · refine opM_do rfl (fun a_ w' hS hf K hK => ?_)
      have s7 : a_.tmps.getD 7 undef = (.pointer (some ⟨w.heap.size + 1, 9, none⟩)) := hf 2 (by kernel_rfl) _ 7 rfl rfl
      obtain ⟨k0, k1, k2, k3, k4, k5, k6, k7, k8, k9⟩ := (CIs.below (CIs.drew C'.out) hS.below).c10
      go_simp
      exact hK _ _ (Below.refl _ _) rfl
    · refine opM_do rfl (fun a_ w' hS hf K hK => ?_)
      have s6 : a_.tmps.getD 6 undef = (.int .i64 y) := hf 1 (by kernel_rfl) _ 6 rfl rfl
      have s8 : a_.tmps.getD 8 undef = (.int .i64 y') := hf 3 (by kernel_rfl) _ 8 rfl rfl
      have hd := E_day.out
      go_simp
      exact hK _ _ (Below.refl _ _) rfl
    · refine opM_do rfl (fun a_ w' hS hf K hK => ?_)
      have s9 : a_.tmps.getD 9 undef = (.bool true) := hf 4 (by kernel_rfl) _ 9 rfl rfl
      go_simp
      exact hK _ _ (Below.refl _ _) rfl
    · refine opM_yes rfl rfl rfl (by kernel_rfl) (fun v w h => h) (fun a_ w' hS hf K hK => ?_)
      have s2 : a_.tmps.getD 2 undef = (.pointer (some ⟨w.heap.size, 0, none⟩)) := (hS.rest 2 (by kernel_rfl)).trans rfl
      go_simp
      exact hK _ _ (Below.refl _ _) rfl
    · refine opM_yes rfl rfl rfl (by kernel_rfl) (fun v w h => h) (fun a_ w' hS hf K hK => ?_)
      have s11 : a_.tmps.getD 11 undef = (.pointer (some ⟨w.heap.size, 1, none⟩)) := hf 6 (by kernel_rfl) _ 11 rfl rfl
      obtain ⟨k0, k1, k2, k3, k4, k5, k6, k7, k8, k9⟩ := (CIs.below (CIs.drew C.out) hS.below).c10
      go_simp
      exact hK _ _ (Below.refl _ _) rfl
    · refine opM_yes rfl rfl rfl (by kernel_rfl) (fun v w h => h) (fun a_ w' hS hf K hK => ?_)
      have s3 : a_.tmps.getD 3 undef = (.pointer (some ⟨w.heap.size + 1, 0, none⟩)) := (hS.rest 3 (by kernel_rfl)).trans rfl
      go_simp
      exact hK _ _ (Below.refl _ _) rfl
    · refine opM_yes rfl rfl rfl (by kernel_rfl) (fun v w h => h) (fun a_ w' hS hf K hK => ?_)
      have s13 : a_.tmps.getD 13 undef = (.pointer (some ⟨w.heap.size + 1, 1, none⟩)) := hf 8 (by kernel_rfl) _ 13 rfl rfl
      obtain ⟨k0, k1, k2, k3, k4, k5, k6, k7, k8, k9⟩ := (CIs.below (CIs.drew C'.out) hS.below).c10
      go_simp
      exact hK _ _ (Below.refl _ _) rfl
    · refine opM_yes rfl rfl rfl (by kernel_rfl) (fun v w h => h) (fun a_ w' hS hf K hK => ?_)
      have s12 : a_.tmps.getD 12 undef = (.agg #[.float .f32 l, .float .f32 s, .slice a len cap, .int .i64 t]) := hf 7 (by kernel_rfl) _ 12 rfl rfl
      have s14 : a_.tmps.getD 14 undef = (.agg #[.float .f32 l', .float .f32 s', .slice a' len' cap', .int .i64 t']) := hf 9 (by kernel_rfl) _ 14 rfl rfl
      have F1 := FSl.below (FSl.drewN H.out 1) hS.below
      have F2 := FSl.below (FSl.drewN H'.out 1) hS.below
      clear hf hS
      go_simp
      refine (imSmt_any _ _ _ _ _ zs _ _ _ _ _ _ zs' _ _ F1 F2 hm hm').mono ?_
      rw [E_state.out]
      rintro e u ⟨rfl, bb⟩
      exact hK _ _ bb rfl
    · refine opM_do rfl (fun a_ w' hS hf K hK => ?_)
      have s10 : a_.tmps.getD 10 undef = (.bool true) := hf 5 (by kernel_rfl) _ 10 rfl rfl
      have s15 : a_.tmps.getD 15 undef = (.bool true) := hf 10 (by kernel_rfl) _ 15 rfl rfl
      go_simp
      exact hK _ _ (Below.refl _ _) rfl
    · refine opM_do rfl (fun a_ w' hS hf K hK => ?_)
      have s16 : a_.tmps.getD 16 undef = (.bool true) := hf 11 (by kernel_rfl) _ 16 rfl rfl
      go_simp
      exact hK _ _ (Below.refl _ _) rfl
    · refine opM_yes rfl rfl rfl (by kernel_rfl) (fun v w h => h) (fun a_ w' hS hf K hK => ?_)
      have s2 : a_.tmps.getD 2 undef = (.pointer (some ⟨w.heap.size, 0, none⟩)) := (hS.rest 2 (by kernel_rfl)).trans rfl
      go_simp
      exact hK _ _ (Below.refl _ _) rfl
    · refine opM_yes rfl rfl rfl (by kernel_rfl) (fun v w h => h) (fun a_ w' hS hf K hK => ?_)
      have s18 : a_.tmps.getD 18 undef = (.pointer (some ⟨w.heap.size, 0, none⟩)) := hf 13 (by kernel_rfl) _ 18 rfl rfl
      obtain ⟨k0, k1, k2, k3, k4, k5, k6, k7, k8, k9⟩ := (CIs.below (CIs.drew C.out) hS.below).c10
      go_simp
      exact hK _ _ (Below.refl _ _) rfl
    · refine opM_yes rfl rfl rfl (by kernel_rfl) (fun v w h => h) (fun a_ w' hS hf K hK => ?_)
      have s3 : a_.tmps.getD 3 undef = (.pointer (some ⟨w.heap.size + 1, 0, none⟩)) := (hS.rest 3 (by kernel_rfl)).trans rfl
      go_simp
      exact hK _ _ (Below.refl _ _) rfl
    · refine opM_yes rfl rfl rfl (by kernel_rfl) (fun v w h => h) (fun a_ w' hS hf K hK => ?_)
      have s20 : a_.tmps.getD 20 undef = (.pointer (some ⟨w.heap.size + 1, 0, none⟩)) := hf 15 (by kernel_rfl) _ 20 rfl rfl
      obtain ⟨k0, k1, k2, k3, k4, k5, k6, k7, k8, k9⟩ := (CIs.below (CIs.drew C'.out) hS.below).c10
      go_simp
      exact hK _ _ (Below.refl _ _) rfl
    · refine opM_yes rfl rfl rfl (by kernel_rfl) (fun v w h => h) (fun a_ w' hS hf K hK => ?_)
      have s19 : a_.tmps.getD 19 undef = (.slice a0 len0 cap0) := hf 14 (by kernel_rfl) _ 19 rfl rfl
      have s21 : a_.tmps.getD 21 undef = (.slice a0' len0' cap0') := hf 16 (by kernel_rfl) _ 21 rfl rfl
      have F1 := FSl.below (FSl.drewN H0.out 1) hS.below
      have F2 := FSl.below (FSl.drewN H0'.out 1) hS.below
      clear hf hS
      go_simp
      refine (imEql_any _ _ _ _ _ _ z0 z0' _ F1 F2 hm0 hm0').mono ?_
      rw [E_series.out]
      rintro e u ⟨rfl, rfl⟩
      exact hK _ _ (Below.refl _ _) rfl
    · refine opM_do rfl (fun a_ w' hS hf K hK => ?_)
      have s17 : a_.tmps.getD 17 undef = (.bool true) := hf 12 (by kernel_rfl) _ 17 rfl rfl
      have s22 : a_.tmps.getD 22 undef = (.bool true) := hf 17 (by kernel_rfl) _ 22 rfl rfl
      go_simp
      exact hK _ _ (Below.refl _ _) rfl
    · refine opM_do rfl (fun a_ w' hS hf K hK => ?_)
      have s23 : a_.tmps.getD 23 undef = (.bool true) := hf 18 (by kernel_rfl) _ 23 rfl rfl
      go_simp
      exact hK _ _ (Below.refl _ _) rfl
    · refine opM_yes rfl rfl rfl (by kernel_rfl) (fun v w h => h) (fun a_ w' hS hf K hK => ?_)
      have s2 : a_.tmps.getD 2 undef = (.pointer (some ⟨w.heap.size, 0, none⟩)) := (hS.rest 2 (by kernel_rfl)).trans rfl
      go_simp
      exact hK _ _ (Below.refl _ _) rfl
    · refine opM_yes rfl rfl rfl (by kernel_rfl) (fun v w h => h) (fun a_ w' hS hf K hK => ?_)
      have s25 : a_.tmps.getD 25 undef = (.pointer (some ⟨w.heap.size, 5, none⟩)) := hf 20 (by kernel_rfl) _ 25 rfl rfl
      obtain ⟨k0, k1, k2, k3, k4, k5, k6, k7, k8, k9⟩ := (CIs.below (CIs.drew C.out) hS.below).c10
      go_simp
      exact hK _ _ (Below.refl _ _) rfl
    · refine opM_yes rfl rfl rfl (by kernel_rfl) (fun v w h => h) (fun a_ w' hS hf K hK => ?_)
      have s26 : a_.tmps.getD 26 undef = (.agg #[.float .f32 b0, .float .f32 b1, .float .f32 b2, .float .f32 b3]) := hf 21 (by kernel_rfl) _ 26 rfl rfl
      clear hf hS
      go_simp
      refine (nb_any _ _ _ _ _).mono ?_
      rintro e u ⟨g, rfl, hg, bb⟩
      exact hK _ _ bb ⟨g, rfl, hg⟩
    · refine opM_yes rfl rfl rfl (by kernel_rfl) (fun v w h => h) (fun a_ w' hS hf K hK => ?_)
      have s3 : a_.tmps.getD 3 undef = (.pointer (some ⟨w.heap.size + 1, 0, none⟩)) := (hS.rest 3 (by kernel_rfl)).trans rfl
      go_simp
      exact hK _ _ (Below.refl _ _) rfl
    · refine opM_yes rfl rfl rfl (by kernel_rfl) (fun v w h => h) (fun a_ w' hS hf K hK => ?_)
      have s28 : a_.tmps.getD 28 undef = (.pointer (some ⟨w.heap.size + 1, 5, none⟩)) := hf 23 (by kernel_rfl) _ 28 rfl rfl
      obtain ⟨k0, k1, k2, k3, k4, k5, k6, k7, k8, k9⟩ := (CIs.below (CIs.drew C'.out) hS.below).c10
      go_simp
      exact hK _ _ (Below.refl _ _) rfl
    · refine opM_yes rfl rfl rfl (by kernel_rfl) (fun v w h => h) (fun a_ w' hS hf K hK => ?_)
      have s29 : a_.tmps.getD 29 undef = (.agg #[.float .f32 b0', .float .f32 b1', .float .f32 b2', .float .f32 b3']) := hf 24 (by kernel_rfl) _ 29 rfl rfl
      clear hf hS
      go_simp
      refine (nb_any _ _ _ _ _).mono ?_
      rintro e u ⟨g, rfl, hg, bb⟩
      exact hK _ _ bb ⟨g, rfl, hg⟩
    · refine opM_yes rfl rfl rfl (by kernel_rfl) (fun v w h => h) (fun a_ w' hS hf K hK => ?_)
      obtain ⟨g27, s27, h27⟩ := (show ∃ g, (a_.tmps.getD 27 undef) = .slice (some ⟨g, 0, none⟩) 4 4 ∧ FSl w' (some ⟨g, 0, none⟩) 4 [b0, b1, b2, b3] from hf 22 (by kernel_rfl) _ 27 rfl rfl)
      obtain ⟨g30, s30, h30⟩ := (show ∃ g, (a_.tmps.getD 30 undef) = .slice (some ⟨g, 0, none⟩) 4 4 ∧ FSl w' (some ⟨g, 0, none⟩) 4 [b0', b1', b2', b3'] from hf 25 (by kernel_rfl) _ 30 rfl rfl)
      clear hf hS
      go_simp
      refine (imEql_any _ _ 4 4 4 4 [b0, b1, b2, b3] [b0', b1', b2', b3'] _ h27 h30 (by omega) (by omega)).mono ?_
      rintro e u ⟨rfl, rfl⟩
      exact hK _ _ (Below.refl _ _) rfl
    · refine opM_do rfl (fun a_ w' hS hf K hK => ?_)
      have s24 : a_.tmps.getD 24 undef = (.bool true) := hf 19 (by kernel_rfl) _ 24 rfl rfl
      have s31 : a_.tmps.getD 31 undef = (.bool (allB [b0, b1, b2, b3] [b0', b1', b2', b3'])) := hf 26 (by kernel_rfl) _ 31 rfl rfl
      go_simp
      exact hK _ _ (Below.refl _ _) rfl
    · refine opM_do rfl (fun a_ w' hS hf K hK => ?_)
      have s32 : a_.tmps.getD 32 undef = (.bool (allB [b0, b1, b2, b3] [b0', b1', b2', b3'])) := hf 27 (by kernel_rfl) _ 32 rfl rfl
      go_simp
      exact hK _ _ (Below.refl _ _) rfl
  · intro a_ w' hS hF
    have e4 : a_.tmps.getD 4 undef = (.bool (allB [b0, b1, b2, b3] [b0', b1', b2', b3'])) := hF 28 _ 4 rfl rfl
    have hdf := hS.defers
    have HB := Lib.hid (show Below w.heap.size w w' from (below_drewN G.out 1).trans (hS.below.mono (below_drewN G.out 1).size))
    obtain ⟨tm, df⟩ := a_
    simp only at e4 hdf
    subst hdf
    clear hF hS
    go_wp2
    go_ret
    exact ⟨congrArg Ending.returned e4, HB.out⟩
theorem imSdk_any (a0 : Option Addr) (len0 cap0 : Nat) (z0 : List Nat) (l s : Nat) (a : Option Addr) (len cap : Nat) (zs : List Nat) (t : Int) (b0 b1 b2 b3 : Nat) (y : Int) (a0' : Option Addr) (len0' cap0' : Nat) (z0' : List Nat) (l' s' : Nat) (a' : Option Addr) (len' cap' : Nat) (zs' : List Nat) (t' : Int) (b0' b1' b2' b3' : Nat) (y' : Int) (w : World) (h0 : FSl w a0 len0 z0) (h : FSl w a len zs) (h0' : FSl w a0' len0' z0') (h' : FSl w a' len' zs') (hm0 : len0 ≤ 1048576) (hm : len ≤ 1048576) (hm0' : len0' ≤ 1048576) (hm' : len' ≤ 1048576) :
    Calls Try.prog 21 #[.agg #[.slice a0 len0 cap0, .float .f32 l, .float .f32 s, .slice a len cap, .int .i64 t, .float .f32 b0, .float .f32 b1, .float .f32 b2, .float .f32 b3, .int .i64 y], .agg #[.slice a0' len0' cap0', .float .f32 l', .float .f32 s', .slice a' len' cap', .int .i64 t', .float .f32 b0', .float .f32 b1', .float .f32 b2', .float .f32 b3', .int .i64 y']] w fun e w' => e = .returned (.bool (sdkB z0 l s zs t b0 b1 b2 b3 y z0' l' s' zs' t' b0' b1' b2' b3' y')) ∧ Below w.heap.size w w' := by
  cases q0 : ((y == y'))
  · have HB : sdkB z0 l s zs t b0 b1 b2 b3 y z0' l' s' zs' t' b0' b1' b2' b3' y' = false := by unfold sdkB; rw [q0]; simp
    rw [HB]
    exact imSd0_any a0 len0 cap0 z0 l s a len cap zs t b0 b1 b2 b3 y a0' len0' cap0' z0' l' s' a' len' cap' zs' t' b0' b1' b2' b3' y' _ h0 h h0' h' hm0 hm hm0' hm' q0
  · skip
    cases q1 : (smtB l s zs t l' s' zs' t')
    · have HB : sdkB z0 l s zs t b0 b1 b2 b3 y z0' l' s' zs' t' b0' b1' b2' b3' y' = false := by unfold sdkB; rw [q1]; simp
      rw [HB]
      exact imSd1_any a0 len0 cap0 z0 l s a len cap zs t b0 b1 b2 b3 y a0' len0' cap0' z0' l' s' a' len' cap' zs' t' b0' b1' b2' b3' y' _ h0 h h0' h' hm0 hm hm0' hm' q0 q1
    · skip
      cases q2 : (allB z0 z0')
      · have HB : sdkB z0 l s zs t b0 b1 b2 b3 y z0' l' s' zs' t' b0' b1' b2' b3' y' = false := by unfold sdkB; rw [q2]; simp
        rw [HB]
        exact imSd2_any a0 len0 cap0 z0 l s a len cap zs t b0 b1 b2 b3 y a0' len0' cap0' z0' l' s' a' len' cap' zs' t' b0' b1' b2' b3' y' _ h0 h h0' h' hm0 hm hm0' hm' q0 q1 q2
      · skip
        have HB : sdkB z0 l s zs t b0 b1 b2 b3 y z0' l' s' zs' t' b0' b1' b2' b3' y' = (allB [b0, b1, b2, b3] [b0', b1', b2', b3']) := by unfold sdkB; rw [q0, q1, q2]; simp
        rw [HB]
        exact imSd3_any a0 len0 cap0 z0 l s a len cap zs t b0 b1 b2 b3 y a0' len0' cap0' z0' l' s' a' len' cap' zs' t' b0' b1' b2' b3' y' _ h0 h h0' h' hm0 hm hm0' hm' q0 q1 q2
end Go.Proofs.Ytdjlakjjgkhlmaa
