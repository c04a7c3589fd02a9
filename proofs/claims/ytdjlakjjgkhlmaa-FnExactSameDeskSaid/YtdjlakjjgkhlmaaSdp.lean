/-
  SameDesk of the model.
-/
import Derived.Test.YtdjlakjjgkhlmaaSdn
import Derived.Test.YtdjlakjjgkhlmaaSmu1
namespace Go.Proofs.Ytdjlakjjgkhlmaa
open Ieee Go.RowKit
set_option linter.unusedVariables false
set_option maxHeartbeats 2000000 in
set_option maxRecDepth 100000 in
theorem spSd0_any (a0 : Option Addr) (len0 cap0 : Nat) (z0 : List Nat) (l s : Nat) (a : Option Addr) (len cap : Nat) (zs : List Nat) (t : Int) (b0 b1 b2 b3 : Nat) (y : Int) (a0' : Option Addr) (len0' cap0' : Nat) (z0' : List Nat) (l' s' : Nat) (a' : Option Addr) (len' cap' : Nat) (zs' : List Nat) (t' : Int) (b0' b1' b2' b3' : Nat) (y' : Int) (w : World) (h0 : FSl w a0 len0 z0) (h : FSl w a len zs) (h0' : FSl w a0' len0' z0') (h' : FSl w a' len' zs') (hm0 : len0 ≤ 1048576) (hm : len ≤ 1048576) (hm0' : len0' ≤ 1048576) (hm' : len' ≤ 1048576) (e_series : (allB z0 z0') = false) :
    Calls Try.prog 20 #[.agg #[.slice a0 len0 cap0, .float .f32 l, .float .f32 s, .slice a len cap, .int .i64 t, .float .f32 b0, .float .f32 b1, .float .f32 b2, .float .f32 b3, .int .i64 y], .agg #[.slice a0' len0' cap0', .float .f32 l', .float .f32 s', .slice a' len' cap', .int .i64 t', .float .f32 b0', .float .f32 b1', .float .f32 b2', .float .f32 b3', .int .i64 y']] w fun e w' => e = .returned (.bool (false)) ∧ Below w.heap.size w w' := by
  have G := Lib.hid (((Below.refl w.heap.size w).alloc (Nat.le_refl _) (.cells #[.slice a0 len0 cap0, .float .f32 l, .float .f32 s, .slice a len cap, .int .i64 t, .float .f32 b0, .float .f32 b1, .float .f32 b2, .float .f32 b3, .int .i64 y] 35)).alloc (by simp) (.cells #[.slice a0' len0' cap0', .float .f32 l', .float .f32 s', .slice a' len' cap', .int .i64 t', .float .f32 b0', .float .f32 b1', .float .f32 b2', .float .f32 b3', .int .i64 y'] 35))
  have C := Lib.hid ((CIs.newAt w [.slice a0 len0 cap0, .float .f32 l, .float .f32 s, .slice a len cap, .int .i64 t, .float .f32 b0, .float .f32 b1, .float .f32 b2, .float .f32 b3, .int .i64 y] 35 rfl).alloc (.cells #[.slice a0' len0' cap0', .float .f32 l', .float .f32 s', .slice a' len' cap', .int .i64 t', .float .f32 b0', .float .f32 b1', .float .f32 b2', .float .f32 b3', .int .i64 y'] 35))
  have C' := Lib.hid (CIs.newAt (w.alloc (.cells #[.slice a0 len0 cap0, .float .f32 l, .float .f32 s, .slice a len cap, .int .i64 t, .float .f32 b0, .float .f32 b1, .float .f32 b2, .float .f32 b3, .int .i64 y] 35)) [.slice a0' len0' cap0', .float .f32 l', .float .f32 s', .slice a' len' cap', .int .i64 t', .float .f32 b0', .float .f32 b1', .float .f32 b2', .float .f32 b3', .int .i64 y'] 35 (p := w.heap.size + 1) (by simp))
  have H0 := Lib.hid (FSl.below h0 G.out)
  have H := Lib.hid (FSl.below h G.out)
  have H0' := Lib.hid (FSl.below h0' G.out)
  have H' := Lib.hid (FSl.below h' G.out)
  clear h0 h h0' h'
  have E_series := Lib.hid e_series
  clear e_series
  go_enter Try.func20, Try.ntmps20
  go_wp2_with fail
  refine (spAll_any _ _ _ _ _ _ z0 z0' _ H0.out H0'.out hm0 hm0').mono ?_
  rw [E_series.out]
  rintro e u1 ⟨m, rfl, rfl⟩
  have bb := below_drewN (Below.refl ((w.alloc (.cells #[.slice a0 len0 cap0, .float .f32 l, .float .f32 s, .slice a len cap, .int .i64 t, .float .f32 b0, .float .f32 b1, .float .f32 b2, .float .f32 b3, .int .i64 y] 35)).alloc (.cells #[.slice a0' len0' cap0', .float .f32 l', .float .f32 s', .slice a' len' cap', .int .i64 t', .float .f32 b0', .float .f32 b1', .float .f32 b2', .float .f32 b3', .int .i64 y'] 35)).heap.size ((w.alloc (.cells #[.slice a0 len0 cap0, .float .f32 l, .float .f32 s, .slice a len cap, .int .i64 t, .float .f32 b0, .float .f32 b1, .float .f32 b2, .float .f32 b3, .int .i64 y] 35)).alloc (.cells #[.slice a0' len0' cap0', .float .f32 l', .float .f32 s', .slice a' len' cap', .int .i64 t', .float .f32 b0', .float .f32 b1', .float .f32 b2', .float .f32 b3', .int .i64 y'] 35))) m
  replace C := Lib.hid (C.out.below bb)
  replace C' := Lib.hid (C'.out.below bb)
  replace H0 := Lib.hid (FSl.below H0.out bb)
  replace H := Lib.hid (FSl.below H.out bb)
  replace H0' := Lib.hid (FSl.below H0'.out bb)
  replace H' := Lib.hid (FSl.below H'.out bb)
  replace G := Lib.hid (G.out.trans (bb.mono G.out.size))
  clear bb
  go_wp2
  go_ret
  exact ⟨rfl, G.out⟩
set_option maxHeartbeats 2000000 in
set_option maxRecDepth 100000 in
theorem spSd1_any (a0 : Option Addr) (len0 cap0 : Nat) (z0 : List Nat) (l s : Nat) (a : Option Addr) (len cap : Nat) (zs : List Nat) (t : Int) (b0 b1 b2 b3 : Nat) (y : Int) (a0' : Option Addr) (len0' cap0' : Nat) (z0' : List Nat) (l' s' : Nat) (a' : Option Addr) (len' cap' : Nat) (zs' : List Nat) (t' : Int) (b0' b1' b2' b3' : Nat) (y' : Int) (w : World) (h0 : FSl w a0 len0 z0) (h : FSl w a len zs) (h0' : FSl w a0' len0' z0') (h' : FSl w a' len' zs') (hm0 : len0 ≤ 1048576) (hm : len ≤ 1048576) (hm0' : len0' ≤ 1048576) (hm' : len' ≤ 1048576) (e_series : (allB z0 z0') = true) (e_state : (smtB l s zs t l' s' zs' t') = false) :
    Calls Try.prog 20 #[.agg #[.slice a0 len0 cap0, .float .f32 l, .float .f32 s, .slice a len cap, .int .i64 t, .float .f32 b0, .float .f32 b1, .float .f32 b2, .float .f32 b3, .int .i64 y], .agg #[.slice a0' len0' cap0', .float .f32 l', .float .f32 s', .slice a' len' cap', .int .i64 t', .float .f32 b0', .float .f32 b1', .float .f32 b2', .float .f32 b3', .int .i64 y']] w fun e w' => e = .returned (.bool (false)) ∧ Below w.heap.size w w' := by
  have G := Lib.hid (((Below.refl w.heap.size w).alloc (Nat.le_refl _) (.cells #[.slice a0 len0 cap0, .float .f32 l, .float .f32 s, .slice a len cap, .int .i64 t, .float .f32 b0, .float .f32 b1, .float .f32 b2, .float .f32 b3, .int .i64 y] 35)).alloc (by simp) (.cells #[.slice a0' len0' cap0', .float .f32 l', .float .f32 s', .slice a' len' cap', .int .i64 t', .float .f32 b0', .float .f32 b1', .float .f32 b2', .float .f32 b3', .int .i64 y'] 35))
  have C := Lib.hid ((CIs.newAt w [.slice a0 len0 cap0, .float .f32 l, .float .f32 s, .slice a len cap, .int .i64 t, .float .f32 b0, .float .f32 b1, .float .f32 b2, .float .f32 b3, .int .i64 y] 35 rfl).alloc (.cells #[.slice a0' len0' cap0', .float .f32 l', .float .f32 s', .slice a' len' cap', .int .i64 t', .float .f32 b0', .float .f32 b1', .float .f32 b2', .float .f32 b3', .int .i64 y'] 35))
  have C' := Lib.hid (CIs.newAt (w.alloc (.cells #[.slice a0 len0 cap0, .float .f32 l, .float .f32 s, .slice a len cap, .int .i64 t, .float .f32 b0, .float .f32 b1, .float .f32 b2, .float .f32 b3, .int .i64 y] 35)) [.slice a0' len0' cap0', .float .f32 l', .float .f32 s', .slice a' len' cap', .int .i64 t', .float .f32 b0', .float .f32 b1', .float .f32 b2', .float .f32 b3', .int .i64 y'] 35 (p := w.heap.size + 1) (by simp))
  have H0 := Lib.hid (FSl.below h0 G.out)
  have H := Lib.hid (FSl.below h G.out)
  have H0' := Lib.hid (FSl.below h0' G.out)
  have H' := Lib.hid (FSl.below h' G.out)
  clear h0 h h0' h'
  have E_series := Lib.hid e_series
  clear e_series
  have E_state := Lib.hid e_state
  clear e_state
  go_enter Try.func20, Try.ntmps20
  go_wp2_with fail
  refine (spAll_any _ _ _ _ _ _ z0 z0' _ H0.out H0'.out hm0 hm0').mono ?_
  rw [E_series.out]
  rintro e u1 ⟨m, rfl, rfl⟩
  have bb := below_drewN (Below.refl ((w.alloc (.cells #[.slice a0 len0 cap0, .float .f32 l, .float .f32 s, .slice a len cap, .int .i64 t, .float .f32 b0, .float .f32 b1, .float .f32 b2, .float .f32 b3, .int .i64 y] 35)).alloc (.cells #[.slice a0' len0' cap0', .float .f32 l', .float .f32 s', .slice a' len' cap', .int .i64 t', .float .f32 b0', .float .f32 b1', .float .f32 b2', .float .f32 b3', .int .i64 y'] 35)).heap.size ((w.alloc (.cells #[.slice a0 len0 cap0, .float .f32 l, .float .f32 s, .slice a len cap, .int .i64 t, .float .f32 b0, .float .f32 b1, .float .f32 b2, .float .f32 b3, .int .i64 y] 35)).alloc (.cells #[.slice a0' len0' cap0', .float .f32 l', .float .f32 s', .slice a' len' cap', .int .i64 t', .float .f32 b0', .float .f32 b1', .float .f32 b2', .float .f32 b3', .int .i64 y'] 35))) m
  replace C := Lib.hid (C.out.below bb)
  replace C' := Lib.hid (C'.out.below bb)
  replace H0 := Lib.hid (FSl.below H0.out bb)
  replace H := Lib.hid (FSl.below H.out bb)
  replace H0' := Lib.hid (FSl.below H0'.out bb)
  replace H' := Lib.hid (FSl.below H'.out bb)
  replace G := Lib.hid (G.out.trans (bb.mono G.out.size))
  clear bb
  generalize (((w.alloc (.cells #[.slice a0 len0 cap0, .float .f32 l, .float .f32 s, .slice a len cap, .int .i64 t, .float .f32 b0, .float .f32 b1, .float .f32 b2, .float .f32 b3, .int .i64 y] 35)).alloc (.cells #[.slice a0' len0' cap0', .float .f32 l', .float .f32 s', .slice a' len' cap', .int .i64 t', .float .f32 b0', .float .f32 b1', .float .f32 b2', .float .f32 b3', .int .i64 y'] 35)).drewN m) = W at *
  obtain ⟨k0, k1, k2, k3, k4, k5, k6, k7, k8, k9⟩ := C.out.c10
  obtain ⟨q0, q1, q2, q3, q4, q5, q6, q7, q8, q9⟩ := C'.out.c10
  go_wp2_with fail
  refine (l04Same1_any _ _ _ _ _ _ _ zs _ _ _ _ _ _ zs' _ _ (show St1 W w.heap.size l s a len cap t from ⟨k1, k2, k3, k4⟩) (show St1 W (w.heap.size + 1) l' s' a' len' cap' t' from ⟨q1, q2, q3, q4⟩) H.out H'.out hm hm').mono ?_
  rw [E_state.out]
  rintro e u2 ⟨rfl, bb⟩
  clear k0 k1 k2 k3 k4 k5 k6 k7 k8 k9
  clear q0 q1 q2 q3 q4 q5 q6 q7 q8 q9
  replace C := Lib.hid (C.out.below bb)
  replace C' := Lib.hid (C'.out.below bb)
  replace H0 := Lib.hid (FSl.below H0.out bb)
  replace H := Lib.hid (FSl.below H.out bb)
  replace H0' := Lib.hid (FSl.below H0'.out bb)
  replace H' := Lib.hid (FSl.below H'.out bb)
  replace G := Lib.hid (G.out.trans (bb.mono G.out.size))
  clear bb
  go_wp2
  go_ret
  exact ⟨rfl, G.out⟩
set_option maxHeartbeats 2000000 in
set_option maxRecDepth 100000 in
theorem spSd2_any (a0 : Option Addr) (len0 cap0 : Nat) (z0 : List Nat) (l s : Nat) (a : Option Addr) (len cap : Nat) (zs : List Nat) (t : Int) (b0 b1 b2 b3 : Nat) (y : Int) (a0' : Option Addr) (len0' cap0' : Nat) (z0' : List Nat) (l' s' : Nat) (a' : Option Addr) (len' cap' : Nat) (zs' : List Nat) (t' : Int) (b0' b1' b2' b3' : Nat) (y' : Int) (w : World) (h0 : FSl w a0 len0 z0) (h : FSl w a len zs) (h0' : FSl w a0' len0' z0') (h' : FSl w a' len' zs') (hm0 : len0 ≤ 1048576) (hm : len ≤ 1048576) (hm0' : len0' ≤ 1048576) (hm' : len' ≤ 1048576) (e_series : (allB z0 z0') = true) (e_state : (smtB l s zs t l' s' zs' t') = true) (e_shares : (allB [b0, b1, b2, b3] [b0', b1', b2', b3']) = false) :
    Calls Try.prog 20 #[.agg #[.slice a0 len0 cap0, .float .f32 l, .float .f32 s, .slice a len cap, .int .i64 t, .float .f32 b0, .float .f32 b1, .float .f32 b2, .float .f32 b3, .int .i64 y], .agg #[.slice a0' len0' cap0', .float .f32 l', .float .f32 s', .slice a' len' cap', .int .i64 t', .float .f32 b0', .float .f32 b1', .float .f32 b2', .float .f32 b3', .int .i64 y']] w fun e w' => e = .returned (.bool (false)) ∧ Below w.heap.size w w' := by
  have G := Lib.hid (((Below.refl w.heap.size w).alloc (Nat.le_refl _) (.cells #[.slice a0 len0 cap0, .float .f32 l, .float .f32 s, .slice a len cap, .int .i64 t, .float .f32 b0, .float .f32 b1, .float .f32 b2, .float .f32 b3, .int .i64 y] 35)).alloc (by simp) (.cells #[.slice a0' len0' cap0', .float .f32 l', .float .f32 s', .slice a' len' cap', .int .i64 t', .float .f32 b0', .float .f32 b1', .float .f32 b2', .float .f32 b3', .int .i64 y'] 35))
  have C := Lib.hid ((CIs.newAt w [.slice a0 len0 cap0, .float .f32 l, .float .f32 s, .slice a len cap, .int .i64 t, .float .f32 b0, .float .f32 b1, .float .f32 b2, .float .f32 b3, .int .i64 y] 35 rfl).alloc (.cells #[.slice a0' len0' cap0', .float .f32 l', .float .f32 s', .slice a' len' cap', .int .i64 t', .float .f32 b0', .float .f32 b1', .float .f32 b2', .float .f32 b3', .int .i64 y'] 35))
  have C' := Lib.hid (CIs.newAt (w.alloc (.cells #[.slice a0 len0 cap0, .float .f32 l, .float .f32 s, .slice a len cap, .int .i64 t, .float .f32 b0, .float .f32 b1, .float .f32 b2, .float .f32 b3, .int .i64 y] 35)) [.slice a0' len0' cap0', .float .f32 l', .float .f32 s', .slice a' len' cap', .int .i64 t', .float .f32 b0', .float .f32 b1', .float .f32 b2', .float .f32 b3', .int .i64 y'] 35 (p := w.heap.size + 1) (by simp))
  have H0 := Lib.hid (FSl.below h0 G.out)
  have H := Lib.hid (FSl.below h G.out)
  have H0' := Lib.hid (FSl.below h0' G.out)
  have H' := Lib.hid (FSl.below h' G.out)
  clear h0 h h0' h'
  have E_series := Lib.hid e_series
  clear e_series
  have E_state := Lib.hid e_state
  clear e_state
  have E_shares := Lib.hid e_shares
  clear e_shares
  go_enter Try.func20, Try.ntmps20
  go_wp2_with fail
  refine (spAll_any _ _ _ _ _ _ z0 z0' _ H0.out H0'.out hm0 hm0').mono ?_
  rw [E_series.out]
  rintro e u1 ⟨m, rfl, rfl⟩
  have bb := below_drewN (Below.refl ((w.alloc (.cells #[.slice a0 len0 cap0, .float .f32 l, .float .f32 s, .slice a len cap, .int .i64 t, .float .f32 b0, .float .f32 b1, .float .f32 b2, .float .f32 b3, .int .i64 y] 35)).alloc (.cells #[.slice a0' len0' cap0', .float .f32 l', .float .f32 s', .slice a' len' cap', .int .i64 t', .float .f32 b0', .float .f32 b1', .float .f32 b2', .float .f32 b3', .int .i64 y'] 35)).heap.size ((w.alloc (.cells #[.slice a0 len0 cap0, .float .f32 l, .float .f32 s, .slice a len cap, .int .i64 t, .float .f32 b0, .float .f32 b1, .float .f32 b2, .float .f32 b3, .int .i64 y] 35)).alloc (.cells #[.slice a0' len0' cap0', .float .f32 l', .float .f32 s', .slice a' len' cap', .int .i64 t', .float .f32 b0', .float .f32 b1', .float .f32 b2', .float .f32 b3', .int .i64 y'] 35))) m
  replace C := Lib.hid (C.out.below bb)
  replace C' := Lib.hid (C'.out.below bb)
  replace H0 := Lib.hid (FSl.below H0.out bb)
  replace H := Lib.hid (FSl.below H.out bb)
  replace H0' := Lib.hid (FSl.below H0'.out bb)
  replace H' := Lib.hid (FSl.below H'.out bb)
  replace G := Lib.hid (G.out.trans (bb.mono G.out.size))
  clear bb
  generalize (((w.alloc (.cells #[.slice a0 len0 cap0, .float .f32 l, .float .f32 s, .slice a len cap, .int .i64 t, .float .f32 b0, .float .f32 b1, .float .f32 b2, .float .f32 b3, .int .i64 y] 35)).alloc (.cells #[.slice a0' len0' cap0', .float .f32 l', .float .f32 s', .slice a' len' cap', .int .i64 t', .float .f32 b0', .float .f32 b1', .float .f32 b2', .float .f32 b3', .int .i64 y'] 35)).drewN m) = W at *
  obtain ⟨k0, k1, k2, k3, k4, k5, k6, k7, k8, k9⟩ := C.out.c10
  obtain ⟨q0, q1, q2, q3, q4, q5, q6, q7, q8, q9⟩ := C'.out.c10
  go_wp2_with fail
  refine (l04Same1_any _ _ _ _ _ _ _ zs _ _ _ _ _ _ zs' _ _ (show St1 W w.heap.size l s a len cap t from ⟨k1, k2, k3, k4⟩) (show St1 W (w.heap.size + 1) l' s' a' len' cap' t' from ⟨q1, q2, q3, q4⟩) H.out H'.out hm hm').mono ?_
  rw [E_state.out]
  rintro e u2 ⟨rfl, bb⟩
  clear k0 k1 k2 k3 k4 k5 k6 k7 k8 k9
  clear q0 q1 q2 q3 q4 q5 q6 q7 q8 q9
  replace C := Lib.hid (C.out.below bb)
  replace C' := Lib.hid (C'.out.below bb)
  replace H0 := Lib.hid (FSl.below H0.out bb)
  replace H := Lib.hid (FSl.below H.out bb)
  replace H0' := Lib.hid (FSl.below H0'.out bb)
  replace H' := Lib.hid (FSl.below H'.out bb)
  replace G := Lib.hid (G.out.trans (bb.mono G.out.size))
  clear bb
  obtain ⟨k0, k1, k2, k3, k4, k5, k6, k7, k8, k9⟩ := C.out.c10
  go_wp2_with fail
  refine (l08Sh_any _ _ _ _ _ _ (show Sh5 u2 w.heap.size b0 b1 b2 b3 from ⟨k5, k6, k7, k8⟩)).mono ?_
  rintro e u3 ⟨g, rfl, hg, bb⟩
  clear k0 k1 k2 k3 k4 k5 k6 k7 k8 k9
  replace C := Lib.hid (C.out.below bb)
  replace C' := Lib.hid (C'.out.below bb)
  replace H0 := Lib.hid (FSl.below H0.out bb)
  replace H := Lib.hid (FSl.below H.out bb)
  replace H0' := Lib.hid (FSl.below H0'.out bb)
  replace H' := Lib.hid (FSl.below H'.out bb)
  replace G := Lib.hid (G.out.trans (bb.mono G.out.size))
  clear bb
  obtain ⟨q0, q1, q2, q3, q4, q5, q6, q7, q8, q9⟩ := C'.out.c10
  go_wp2_with fail
  refine (l08Sh_any _ _ _ _ _ _ (show Sh5 u3 (w.heap.size + 1) b0' b1' b2' b3' from ⟨q5, q6, q7, q8⟩)).mono ?_
  rintro e u4 ⟨g', rfl, hg', bb⟩
  clear q0 q1 q2 q3 q4 q5 q6 q7 q8 q9
  replace hg := FSl.below hg bb
  replace C := Lib.hid (C.out.below bb)
  replace C' := Lib.hid (C'.out.below bb)
  replace H0 := Lib.hid (FSl.below H0.out bb)
  replace H := Lib.hid (FSl.below H.out bb)
  replace H0' := Lib.hid (FSl.below H0'.out bb)
  replace H' := Lib.hid (FSl.below H'.out bb)
  replace G := Lib.hid (G.out.trans (bb.mono G.out.size))
  clear bb
  go_wp2_with fail
  refine (spAll_any _ _ 4 4 4 4 [b0, b1, b2, b3] [b0', b1', b2', b3'] _ hg hg' (by omega) (by omega)).mono ?_
  rw [E_shares.out]
  rintro e u5 ⟨m5, rfl, rfl⟩
  replace G := Lib.hid (below_drewN G.out m5)
  replace C := Lib.hid (C.out.drewN m5)
  replace C' := Lib.hid (C'.out.drewN m5)
  go_wp2
  go_ret
  exact ⟨rfl, G.out⟩
set_option maxHeartbeats 2000000 in
set_option maxRecDepth 100000 in
theorem spSd3_any (a0 : Option Addr) (len0 cap0 : Nat) (z0 : List Nat) (l s : Nat) (a : Option Addr) (len cap : Nat) (zs : List Nat) (t : Int) (b0 b1 b2 b3 : Nat) (y : Int) (a0' : Option Addr) (len0' cap0' : Nat) (z0' : List Nat) (l' s' : Nat) (a' : Option Addr) (len' cap' : Nat) (zs' : List Nat) (t' : Int) (b0' b1' b2' b3' : Nat) (y' : Int) (w : World) (h0 : FSl w a0 len0 z0) (h : FSl w a len zs) (h0' : FSl w a0' len0' z0') (h' : FSl w a' len' zs') (hm0 : len0 ≤ 1048576) (hm : len ≤ 1048576) (hm0' : len0' ≤ 1048576) (hm' : len' ≤ 1048576) (e_series : (allB z0 z0') = true) (e_state : (smtB l s zs t l' s' zs' t') = true) (e_shares : (allB [b0, b1, b2, b3] [b0', b1', b2', b3']) = true) :
    Calls Try.prog 20 #[.agg #[.slice a0 len0 cap0, .float .f32 l, .float .f32 s, .slice a len cap, .int .i64 t, .float .f32 b0, .float .f32 b1, .float .f32 b2, .float .f32 b3, .int .i64 y], .agg #[.slice a0' len0' cap0', .float .f32 l', .float .f32 s', .slice a' len' cap', .int .i64 t', .float .f32 b0', .float .f32 b1', .float .f32 b2', .float .f32 b3', .int .i64 y']] w fun e w' => e = .returned (.bool ((y == y'))) ∧ Below w.heap.size w w' := by
  have G := Lib.hid (((Below.refl w.heap.size w).alloc (Nat.le_refl _) (.cells #[.slice a0 len0 cap0, .float .f32 l, .float .f32 s, .slice a len cap, .int .i64 t, .float .f32 b0, .float .f32 b1, .float .f32 b2, .float .f32 b3, .int .i64 y] 35)).alloc (by simp) (.cells #[.slice a0' len0' cap0', .float .f32 l', .float .f32 s', .slice a' len' cap', .int .i64 t', .float .f32 b0', .float .f32 b1', .float .f32 b2', .float .f32 b3', .int .i64 y'] 35))
  have C := Lib.hid ((CIs.newAt w [.slice a0 len0 cap0, .float .f32 l, .float .f32 s, .slice a len cap, .int .i64 t, .float .f32 b0, .float .f32 b1, .float .f32 b2, .float .f32 b3, .int .i64 y] 35 rfl).alloc (.cells #[.slice a0' len0' cap0', .float .f32 l', .float .f32 s', .slice a' len' cap', .int .i64 t', .float .f32 b0', .float .f32 b1', .float .f32 b2', .float .f32 b3', .int .i64 y'] 35))
  have C' := Lib.hid (CIs.newAt (w.alloc (.cells #[.slice a0 len0 cap0, .float .f32 l, .float .f32 s, .slice a len cap, .int .i64 t, .float .f32 b0, .float .f32 b1, .float .f32 b2, .float .f32 b3, .int .i64 y] 35)) [.slice a0' len0' cap0', .float .f32 l', .float .f32 s', .slice a' len' cap', .int .i64 t', .float .f32 b0', .float .f32 b1', .float .f32 b2', .float .f32 b3', .int .i64 y'] 35 (p := w.heap.size + 1) (by simp))
  have H0 := Lib.hid (FSl.below h0 G.out)
  have H := Lib.hid (FSl.below h G.out)
  have H0' := Lib.hid (FSl.below h0' G.out)
  have H' := Lib.hid (FSl.below h' G.out)
  clear h0 h h0' h'
  have E_series := Lib.hid e_series
  clear e_series
  have E_state := Lib.hid e_state
  clear e_state
  have E_shares := Lib.hid e_shares
  clear e_shares
  go_enter Try.func20, Try.ntmps20
  go_wp2_with fail
  refine (spAll_any _ _ _ _ _ _ z0 z0' _ H0.out H0'.out hm0 hm0').mono ?_
  rw [E_series.out]
  rintro e u1 ⟨m, rfl, rfl⟩
  have bb := below_drewN (Below.refl ((w.alloc (.cells #[.slice a0 len0 cap0, .float .f32 l, .float .f32 s, .slice a len cap, .int .i64 t, .float .f32 b0, .float .f32 b1, .float .f32 b2, .float .f32 b3, .int .i64 y] 35)).alloc (.cells #[.slice a0' len0' cap0', .float .f32 l', .float .f32 s', .slice a' len' cap', .int .i64 t', .float .f32 b0', .float .f32 b1', .float .f32 b2', .float .f32 b3', .int .i64 y'] 35)).heap.size ((w.alloc (.cells #[.slice a0 len0 cap0, .float .f32 l, .float .f32 s, .slice a len cap, .int .i64 t, .float .f32 b0, .float .f32 b1, .float .f32 b2, .float .f32 b3, .int .i64 y] 35)).alloc (.cells #[.slice a0' len0' cap0', .float .f32 l', .float .f32 s', .slice a' len' cap', .int .i64 t', .float .f32 b0', .float .f32 b1', .float .f32 b2', .float .f32 b3', .int .i64 y'] 35))) m
  replace C := Lib.hid (C.out.below bb)
  replace C' := Lib.hid (C'.out.below bb)
  replace H0 := Lib.hid (FSl.below H0.out bb)
  replace H := Lib.hid (FSl.below H.out bb)
  replace H0' := Lib.hid (FSl.below H0'.out bb)
  replace H' := Lib.hid (FSl.below H'.out bb)
  replace G := Lib.hid (G.out.trans (bb.mono G.out.size))
  clear bb
  generalize (((w.alloc (.cells #[.slice a0 len0 cap0, .float .f32 l, .float .f32 s, .slice a len cap, .int .i64 t, .float .f32 b0, .float .f32 b1, .float .f32 b2, .float .f32 b3, .int .i64 y] 35)).alloc (.cells #[.slice a0' len0' cap0', .float .f32 l', .float .f32 s', .slice a' len' cap', .int .i64 t', .float .f32 b0', .float .f32 b1', .float .f32 b2', .float .f32 b3', .int .i64 y'] 35)).drewN m) = W at *
  obtain ⟨k0, k1, k2, k3, k4, k5, k6, k7, k8, k9⟩ := C.out.c10
  obtain ⟨q0, q1, q2, q3, q4, q5, q6, q7, q8, q9⟩ := C'.out.c10
  go_wp2_with fail
  refine (l04Same1_any _ _ _ _ _ _ _ zs _ _ _ _ _ _ zs' _ _ (show St1 W w.heap.size l s a len cap t from ⟨k1, k2, k3, k4⟩) (show St1 W (w.heap.size + 1) l' s' a' len' cap' t' from ⟨q1, q2, q3, q4⟩) H.out H'.out hm hm').mono ?_
  rw [E_state.out]
  rintro e u2 ⟨rfl, bb⟩
  clear k0 k1 k2 k3 k4 k5 k6 k7 k8 k9
  clear q0 q1 q2 q3 q4 q5 q6 q7 q8 q9
  replace C := Lib.hid (C.out.below bb)
  replace C' := Lib.hid (C'.out.below bb)
  replace H0 := Lib.hid (FSl.below H0.out bb)
  replace H := Lib.hid (FSl.below H.out bb)
  replace H0' := Lib.hid (FSl.below H0'.out bb)
  replace H' := Lib.hid (FSl.below H'.out bb)
  replace G := Lib.hid (G.out.trans (bb.mono G.out.size))
  clear bb
  obtain ⟨k0, k1, k2, k3, k4, k5, k6, k7, k8, k9⟩ := C.out.c10
  go_wp2_with fail
  refine (l08Sh_any _ _ _ _ _ _ (show Sh5 u2 w.heap.size b0 b1 b2 b3 from ⟨k5, k6, k7, k8⟩)).mono ?_
  rintro e u3 ⟨g, rfl, hg, bb⟩
  clear k0 k1 k2 k3 k4 k5 k6 k7 k8 k9
  replace C := Lib.hid (C.out.below bb)
  replace C' := Lib.hid (C'.out.below bb)
  replace H0 := Lib.hid (FSl.below H0.out bb)
  replace H := Lib.hid (FSl.below H.out bb)
  replace H0' := Lib.hid (FSl.below H0'.out bb)
  replace H' := Lib.hid (FSl.below H'.out bb)
  replace G := Lib.hid (G.out.trans (bb.mono G.out.size))
  clear bb
  obtain ⟨q0, q1, q2, q3, q4, q5, q6, q7, q8, q9⟩ := C'.out.c10
  go_wp2_with fail
  refine (l08Sh_any _ _ _ _ _ _ (show Sh5 u3 (w.heap.size + 1) b0' b1' b2' b3' from ⟨q5, q6, q7, q8⟩)).mono ?_
  rintro e u4 ⟨g', rfl, hg', bb⟩
  clear q0 q1 q2 q3 q4 q5 q6 q7 q8 q9
  replace hg := FSl.below hg bb
  replace C := Lib.hid (C.out.below bb)
  replace C' := Lib.hid (C'.out.below bb)
  replace H0 := Lib.hid (FSl.below H0.out bb)
  replace H := Lib.hid (FSl.below H.out bb)
  replace H0' := Lib.hid (FSl.below H0'.out bb)
  replace H' := Lib.hid (FSl.below H'.out bb)
  replace G := Lib.hid (G.out.trans (bb.mono G.out.size))
  clear bb
  go_wp2_with fail
  refine (spAll_any _ _ 4 4 4 4 [b0, b1, b2, b3] [b0', b1', b2', b3'] _ hg hg' (by omega) (by omega)).mono ?_
  rw [E_shares.out]
  rintro e u5 ⟨m5, rfl, rfl⟩
  replace G := Lib.hid (below_drewN G.out m5)
  replace C := Lib.hid (C.out.drewN m5)
  replace C' := Lib.hid (C'.out.drewN m5)
  obtain ⟨k0, k1, k2, k3, k4, k5, k6, k7, k8, k9⟩ := C.out.c10
  obtain ⟨q0, q1, q2, q3, q4, q5, q6, q7, q8, q9⟩ := C'.out.c10
  go_wp2
  go_ret
  exact ⟨rfl, G.out⟩
theorem spSdk_any (a0 : Option Addr) (len0 cap0 : Nat) (z0 : List Nat) (l s : Nat) (a : Option Addr) (len cap : Nat) (zs : List Nat) (t : Int) (b0 b1 b2 b3 : Nat) (y : Int) (a0' : Option Addr) (len0' cap0' : Nat) (z0' : List Nat) (l' s' : Nat) (a' : Option Addr) (len' cap' : Nat) (zs' : List Nat) (t' : Int) (b0' b1' b2' b3' : Nat) (y' : Int) (w : World) (h0 : FSl w a0 len0 z0) (h : FSl w a len zs) (h0' : FSl w a0' len0' z0') (h' : FSl w a' len' zs') (hm0 : len0 ≤ 1048576) (hm : len ≤ 1048576) (hm0' : len0' ≤ 1048576) (hm' : len' ≤ 1048576) :
    Calls Try.prog 20 #[.agg #[.slice a0 len0 cap0, .float .f32 l, .float .f32 s, .slice a len cap, .int .i64 t, .float .f32 b0, .float .f32 b1, .float .f32 b2, .float .f32 b3, .int .i64 y], .agg #[.slice a0' len0' cap0', .float .f32 l', .float .f32 s', .slice a' len' cap', .int .i64 t', .float .f32 b0', .float .f32 b1', .float .f32 b2', .float .f32 b3', .int .i64 y']] w fun e w' => e = .returned (.bool (sdkB z0 l s zs t b0 b1 b2 b3 y z0' l' s' zs' t' b0' b1' b2' b3' y')) ∧ Below w.heap.size w w' := by
  cases q0 : (allB z0 z0')
  · have HB : sdkB z0 l s zs t b0 b1 b2 b3 y z0' l' s' zs' t' b0' b1' b2' b3' y' = false := by unfold sdkB; rw [q0]; simp
    rw [HB]
    exact spSd0_any a0 len0 cap0 z0 l s a len cap zs t b0 b1 b2 b3 y a0' len0' cap0' z0' l' s' a' len' cap' zs' t' b0' b1' b2' b3' y' _ h0 h h0' h' hm0 hm hm0' hm' q0
  · skip
    cases q1 : (smtB l s zs t l' s' zs' t')
    · have HB : sdkB z0 l s zs t b0 b1 b2 b3 y z0' l' s' zs' t' b0' b1' b2' b3' y' = false := by unfold sdkB; rw [q1]; simp
      rw [HB]
      exact spSd1_any a0 len0 cap0 z0 l s a len cap zs t b0 b1 b2 b3 y a0' len0' cap0' z0' l' s' a' len' cap' zs' t' b0' b1' b2' b3' y' _ h0 h h0' h' hm0 hm hm0' hm' q0 q1
    · skip
      cases q2 : (allB [b0, b1, b2, b3] [b0', b1', b2', b3'])
      · have HB : sdkB z0 l s zs t b0 b1 b2 b3 y z0' l' s' zs' t' b0' b1' b2' b3' y' = false := by unfold sdkB; rw [q2]; simp
        rw [HB]
        exact spSd2_any a0 len0 cap0 z0 l s a len cap zs t b0 b1 b2 b3 y a0' len0' cap0' z0' l' s' a' len' cap' zs' t' b0' b1' b2' b3' y' _ h0 h h0' h' hm0 hm hm0' hm' q0 q1 q2
      · skip
        have HB : sdkB z0 l s zs t b0 b1 b2 b3 y z0' l' s' zs' t' b0' b1' b2' b3' y' = ((y == y')) := by unfold sdkB; rw [q0, q1, q2]; simp
        rw [HB]
        exact spSd3_any a0 len0 cap0 z0 l s a len cap zs t b0 b1 b2 b3 y a0' len0' cap0' z0' l' s' a' len' cap' zs' t' b0' b1' b2' b3' y' _ h0 h h0' h' hm0 hm hm0' hm' q0 q1 q2
end Go.Proofs.Ytdjlakjjgkhlmaa
