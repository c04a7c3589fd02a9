/-
  Desks: the law's copies, sizes, and whether two are the same.
-/
import Derived.Test.YtcfejkkkleiejaaDsk
namespace Go.Proofs.Ytcfejkkkleiejaa
open Ieee Go.RowKit
set_option linter.unusedVariables false
theorem eqSh_any (a b c d a' b' c' d' : Nat) (w : World) (ha : cn .f32 a = cn .f32 a') (hb : cn .f32 b = cn .f32 b') (hc : cn .f32 c = cn .f32 c') (hd : cn .f32 d = cn .f32 d') :
    Calls Try.prog 12 #[.agg #[.float .f32 a, .float .f32 b, .float .f32 c, .float .f32 d], .agg #[.float .f32 a', .float .f32 b', .float .f32 c', .float .f32 d']] w fun e w' => e = .returned (.bool true) ∧ Below w.heap.size w w' := by
  have G := Lib.hid (((Below.refl w.heap.size w).alloc (Nat.le_refl _) (.cells #[.float .f32 a, .float .f32 b, .float .f32 c, .float .f32 d] 27)).alloc (by simp) (.cells #[.float .f32 a', .float .f32 b', .float .f32 c', .float .f32 d'] 27))
  have HA := Lib.hid ha
  have HB := Lib.hid hb
  have HC := Lib.hid hc
  have HD := Lib.hid hd
  clear ha hb hc hd
  go_enter Try.func12, Try.ntmps12
  go_wp2_with fail
  refine (sameFloat_true _ _ _ (by rw [cn_wideR, cn_wideR, HA.out])).mono ?_
  rintro e w' ⟨n0, rfl, rfl⟩
  go_wp2_with fail
  refine (sameFloat_true _ _ _ (by rw [cn_wideR, cn_wideR, HB.out])).mono ?_
  rintro e w' ⟨n1, rfl, rfl⟩
  go_wp2_with fail
  refine (sameFloat_true _ _ _ (by rw [cn_wideR, cn_wideR, HC.out])).mono ?_
  rintro e w' ⟨n2, rfl, rfl⟩
  go_wp2_with fail
  refine (sameFloat_true _ _ _ (by rw [cn_wideR, cn_wideR, HD.out])).mono ?_
  rintro e w' ⟨n3, rfl, rfl⟩
  go_wp2
  go_ret
  exact ⟨rfl, below_drewN G.out _⟩
theorem eqDk_any (a0 a0' : Option Addr) (len0 cap0 cap0' : Nat) (z0 : List Nat) (l s : Nat) (a a' : Option Addr) (len cap cap' : Nat) (zs : List Nat) (t : Int) (b0 b1 b2 b3 : Nat) (y : Int) (w : World) (h0 : FSl w a0 len0 z0) (h0' : FSl w a0' len0 z0) (h : FSl w a len zs) (h' : FSl w a' len zs) (hm0 : len0 ≤ 1048576) (hm : len ≤ 1048576) :
    Calls Try.prog 6 #[.agg #[.slice a0 len0 cap0, .float .f32 l, .float .f32 s, .slice a len cap, .int .i64 t, .float .f32 b0, .float .f32 b1, .float .f32 b2, .float .f32 b3, .int .i64 y], .agg #[.slice a0' len0 cap0', .float .f32 l, .float .f32 s, .slice a' len cap', .int .i64 t, .float .f32 b0, .float .f32 b1, .float .f32 b2, .float .f32 b3, .int .i64 y]] w fun e w' => e = .returned (.bool true) ∧ Below w.heap.size w w' := by
  have G := Lib.hid (((Below.refl w.heap.size w).alloc (Nat.le_refl _) (.cells #[.slice a0 len0 cap0, .float .f32 l, .float .f32 s, .slice a len cap, .int .i64 t, .float .f32 b0, .float .f32 b1, .float .f32 b2, .float .f32 b3, .int .i64 y] 29)).alloc (by simp) (.cells #[.slice a0' len0 cap0', .float .f32 l, .float .f32 s, .slice a' len cap', .int .i64 t, .float .f32 b0, .float .f32 b1, .float .f32 b2, .float .f32 b3, .int .i64 y] 29))
  have C := Lib.hid ((CIs.newAt w [.slice a0 len0 cap0, .float .f32 l, .float .f32 s, .slice a len cap, .int .i64 t, .float .f32 b0, .float .f32 b1, .float .f32 b2, .float .f32 b3, .int .i64 y] 29 rfl).alloc (.cells #[.slice a0' len0 cap0', .float .f32 l, .float .f32 s, .slice a' len cap', .int .i64 t, .float .f32 b0, .float .f32 b1, .float .f32 b2, .float .f32 b3, .int .i64 y] 29))
  have C' := Lib.hid (CIs.newAt (w.alloc (.cells #[.slice a0 len0 cap0, .float .f32 l, .float .f32 s, .slice a len cap, .int .i64 t, .float .f32 b0, .float .f32 b1, .float .f32 b2, .float .f32 b3, .int .i64 y] 29)) [.slice a0' len0 cap0', .float .f32 l, .float .f32 s, .slice a' len cap', .int .i64 t, .float .f32 b0, .float .f32 b1, .float .f32 b2, .float .f32 b3, .int .i64 y] 29 (p := w.heap.size + 1) (by simp))
  have H0 := Lib.hid (FSl.below h0 G.out)
  have H0' := Lib.hid (FSl.below h0' G.out)
  have H := Lib.hid (FSl.below h G.out)
  have H' := Lib.hid (FSl.below h' G.out)
  clear h0 h0' h h'
  have hy : (y != y) = false := bne_self_eq_false _
  go_enter Try.func6, Try.ntmps6
  go_wp2_with fail
  refine (eqF_any _ _ _ _ _ _ _ _ H0.out H0'.out hm0 (fun _ _ => rfl)).mono ?_
  rintro e w1 ⟨n0, rfl, rfl⟩
  go_wp2_with fail
  refine (eqSt_any _ _ _ _ _ _ _ _ _ _ _ _ _ rfl rfl (FSl.drewN H.out n0) (FSl.drewN H'.out n0) hm (fun _ _ => rfl)).mono ?_
  rintro e w2 ⟨rfl, b⟩
  have G2 := Lib.hid ((below_drewN G.out n0).trans (b.mono (below_drewN G.out n0).size))
  have C2 := Lib.hid ((C.out.drewN n0).below b)
  have C2' := Lib.hid ((C'.out.drewN n0).below b)
  clear b C C'
  obtain ⟨k0, k1, k2, k3, k4, k5, k6, k7, k8, k9⟩ := C2.out.c10
  obtain ⟨q0, q1, q2, q3, q4, q5, q6, q7, q8, q9⟩ := C2'.out.c10
  go_wp2_with fail
  refine (eqSh_any _ _ _ _ _ _ _ _ _ rfl rfl rfl rfl).mono ?_
  rintro e w3 ⟨rfl, b⟩
  have G3 := Lib.hid (G2.out.trans (b.mono G2.out.size))
  have C3 := Lib.hid (C2.out.below b)
  have C3' := Lib.hid (C2'.out.below b)
  clear b C2 C2' k0 k1 k2 k3 k4 k5 k6 k7 k8 k9 q0 q1 q2 q3 q4 q5 q6 q7 q8 q9
  obtain ⟨k0, k1, k2, k3, k4, k5, k6, k7, k8, k9⟩ := C3.out.c10
  obtain ⟨q0, q1, q2, q3, q4, q5, q6, q7, q8, q9⟩ := C3'.out.c10
  go_wp2
  go_ret
  exact ⟨rfl, G3.out⟩
end Go.Proofs.Ytcfejkkkleiejaa
