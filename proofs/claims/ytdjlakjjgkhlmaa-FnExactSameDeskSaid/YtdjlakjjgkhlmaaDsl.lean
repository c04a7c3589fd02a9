/-
  Desks: the law's copies, sizes, and whether two are the same.
-/
import Derived.Test.YtdjlakjjgkhlmaaDsk
namespace Go.Proofs.Ytdjlakjjgkhlmaa
open Ieee Go.RowKit
set_option linter.unusedVariables false
theorem toStE_any (l s : Nat) (a : Option Addr) (len cap : Nat) (zs : List Nat) (t : Int) (w : World) (h : FSl w a len zs) (hm : len ≤ 1048576) :
    Calls Try.prog 24 #[.agg #[.float .f32 l, .float .f32 s, .slice a len cap, .int .i64 t]] w fun e w' => ∃ A b, e = .returned (.agg #[.float .f32 l, .float .f32 s, .slice A len len, .int .i64 t]) ∧ Held w' A b len zs ∧ Below w.heap.size w w' ∧ w.heap.size ≤ b :=
  (toSt_any l s a len cap zs t w h hm).mono fun _ _ ⟨h1, h2, h3, _⟩ => ⟨_, _, h1, h2, h3, by omega⟩
theorem eqSh_any (a b c d a' b' c' d' : Nat) (w : World) (ha : cn .f32 a = cn .f32 a') (hb : cn .f32 b = cn .f32 b') (hc : cn .f32 c = cn .f32 c') (hd : cn .f32 d = cn .f32 d') :
    Calls Try.prog 76 #[.agg #[.float .f32 a, .float .f32 b, .float .f32 c, .float .f32 d], .agg #[.float .f32 a', .float .f32 b', .float .f32 c', .float .f32 d']] w fun e w' => e = .returned (.bool true) ∧ Below w.heap.size w w' := by
  have G := Lib.hid (((Below.refl w.heap.size w).alloc (Nat.le_refl _) (.cells #[.float .f32 a, .float .f32 b, .float .f32 c, .float .f32 d] 33)).alloc (by simp) (.cells #[.float .f32 a', .float .f32 b', .float .f32 c', .float .f32 d'] 33))
  have HA := Lib.hid ha
  have HB := Lib.hid hb
  have HC := Lib.hid hc
  have HD := Lib.hid hd
  clear ha hb hc hd
  go_enter Try.func76, Try.ntmps76
  go_wp2_with fail
  refine (sameFloat_true _ _ _ (by rw [cn_wideR, cn_wideR, HA.out])).mono ?_
  rintro e w' ⟨n0, rfl, rfl⟩
  go_wp2_with fail
  refine (sameFloat_true _ _ _ (by rw [cn_wideR, cn_wideR, HB.out])).mono ?_
  rintro e w' ⟨n1, rfl, rfl⟩
  go_wp2_with fail
  refine (sameFloat_true _ _ _ (by rw [cn_wideR, cn_wideR, HC.out])).mono ?_
  rintro e w' ⟨n2, rfl, rfl⟩
  go_wp2_with fail
  refine (sameFloat_true _ _ _ (by rw [cn_wideR, cn_wideR, HD.out])).mono ?_
  rintro e w' ⟨n3, rfl, rfl⟩
  go_wp2
  go_ret
  exact ⟨rfl, below_drewN G.out _⟩
theorem szDk_any (a0 : Option Addr) (len0 cap0 l s : Nat) (a : Option Addr) (len cap : Nat) (t : Int) (b0 b1 b2 b3 : Nat) (y : Int) (n : Nat) (w : World) (hn : n ≤ 1048576) (hm0 : len0 ≤ n) (hm : len ≤ n - len0) :
    Calls Try.prog 15 #[.agg #[.slice a0 len0 cap0, .float .f32 l, .float .f32 s, .slice a len cap, .int .i64 t, .float .f32 b0, .float .f32 b1, .float .f32 b2, .float .f32 b3, .int .i64 y], .int .i64 n] w fun e w' => e = .returned (.int .i64 ((n - len0 - len : Nat) : Int)) ∧ Below w.heap.size w w' := by
  have C := Lib.hid (CIs.newAt w [.slice a0 len0 cap0, .float .f32 l, .float .f32 s, .slice a len cap, .int .i64 t, .float .f32 b0, .float .f32 b1, .float .f32 b2, .float .f32 b3, .int .i64 y] 29 rfl)
  have G := Lib.hid ((Below.refl w.heap.size w).alloc (Nat.le_refl _) (.cells #[.slice a0 len0 cap0, .float .f32 l, .float .f32 s, .slice a len cap, .int .i64 t, .float .f32 b0, .float .f32 b1, .float .f32 b2, .float .f32 b3, .int .i64 y] 29))
  go_enter Try.func15, Try.ntmps15
  go_wp2_with fail
  refine (szFy_any _ _ _ n _ hn hm0).mono ?_
  rintro e w' ⟨rfl, rfl⟩
  have hd : decide (((n - len0 : Nat) : Int) < 0) = false := decide_eq_false (by omega)
  have hd2 : decide (((n - len0 - len : Nat) : Int) < 0) = false := decide_eq_false (by omega)
  go_wp2_with fail
  refine (szSt_any _ _ _ _ _ _ (n - len0) _ (by omega) hm).mono ?_
  rintro e w' ⟨rfl, b⟩
  have G2 := Lib.hid (G.out.trans (b.mono G.out.size))
  clear b
  go_wp2
  go_ret
  exact ⟨rfl, G2.out⟩
theorem szDk_no0 (a0 : Option Addr) (len0 cap0 l s : Nat) (a : Option Addr) (len cap : Nat) (t : Int) (b0 b1 b2 b3 : Nat) (y : Int) (n : Nat) (w : World) (hn : n ≤ 1048576) (hm0 : n < len0) (hx : len0 ≤ maxLen) :
    Calls Try.prog 15 #[.agg #[.slice a0 len0 cap0, .float .f32 l, .float .f32 s, .slice a len cap, .int .i64 t, .float .f32 b0, .float .f32 b1, .float .f32 b2, .float .f32 b3, .int .i64 y], .int .i64 n] w fun e w' => e = .returned (.int .i64 (-1)) ∧ Below w.heap.size w w' := by
  have G := Lib.hid ((Below.refl w.heap.size w).alloc (Nat.le_refl _) (.cells #[.slice a0 len0 cap0, .float .f32 l, .float .f32 s, .slice a len cap, .int .i64 t, .float .f32 b0, .float .f32 b1, .float .f32 b2, .float .f32 b3, .int .i64 y] 29))
  go_enter Try.func15, Try.ntmps15
  go_wp2_with fail
  refine (szFn_any _ _ _ n _ hn hm0 hx).mono ?_
  rintro e w' ⟨rfl, rfl⟩
  go_wp2
  go_ret
  exact ⟨rfl, G.out⟩
theorem szDk_no1 (a0 : Option Addr) (len0 cap0 l s : Nat) (a : Option Addr) (len cap : Nat) (t : Int) (b0 b1 b2 b3 : Nat) (y : Int) (n : Nat) (w : World) (hn : n ≤ 1048576) (hm0 : len0 ≤ n) (hm : n - len0 < len) (hx : len ≤ maxLen) :
    Calls Try.prog 15 #[.agg #[.slice a0 len0 cap0, .float .f32 l, .float .f32 s, .slice a len cap, .int .i64 t, .float .f32 b0, .float .f32 b1, .float .f32 b2, .float .f32 b3, .int .i64 y], .int .i64 n] w fun e w' => e = .returned (.int .i64 (-1)) ∧ Below w.heap.size w w' := by
  have C := Lib.hid (CIs.newAt w [.slice a0 len0 cap0, .float .f32 l, .float .f32 s, .slice a len cap, .int .i64 t, .float .f32 b0, .float .f32 b1, .float .f32 b2, .float .f32 b3, .int .i64 y] 29 rfl)
  have G := Lib.hid ((Below.refl w.heap.size w).alloc (Nat.le_refl _) (.cells #[.slice a0 len0 cap0, .float .f32 l, .float .f32 s, .slice a len cap, .int .i64 t, .float .f32 b0, .float .f32 b1, .float .f32 b2, .float .f32 b3, .int .i64 y] 29))
  go_enter Try.func15, Try.ntmps15
  go_wp2_with fail
  refine (szFy_any _ _ _ n _ hn hm0).mono ?_
  rintro e w' ⟨rfl, rfl⟩
  have hd : decide (((n - len0 : Nat) : Int) < 0) = false := decide_eq_false (by omega)
  go_wp2_with fail
  refine (szSt_no _ _ _ _ _ _ (n - len0) _ (by omega) hm hx).mono ?_
  rintro e w' ⟨rfl, b⟩
  have G2 := Lib.hid (G.out.trans (b.mono G.out.size))
  clear b
  go_wp2
  go_ret
  exact ⟨rfl, G2.out⟩
theorem eqDk_any (a0 a0' : Option Addr) (len0 cap0 cap0' : Nat) (z0 : List Nat) (l s : Nat) (a a' : Option Addr) (len cap cap' : Nat) (zs : List Nat) (t : Int) (b0 b1 b2 b3 : Nat) (y : Int) (w : World) (h0 : FSl w a0 len0 z0) (h0' : FSl w a0' len0 z0) (h : FSl w a len zs) (h' : FSl w a' len zs) (hm0 : len0 ≤ 1048576) (hm : len ≤ 1048576) :
    Calls Try.prog 19 #[.agg #[.slice a0 len0 cap0, .float .f32 l, .float .f32 s, .slice a len cap, .int .i64 t, .float .f32 b0, .float .f32 b1, .float .f32 b2, .float .f32 b3, .int .i64 y], .agg #[.slice a0' len0 cap0', .float .f32 l, .float .f32 s, .slice a' len cap', .int .i64 t, .float .f32 b0, .float .f32 b1, .float .f32 b2, .float .f32 b3, .int .i64 y]] w fun e w' => e = .returned (.bool true) ∧ Below w.heap.size w w' := by
  have G := Lib.hid (((Below.refl w.heap.size w).alloc (Nat.le_refl _) (.cells #[.slice a0 len0 cap0, .float .f32 l, .float .f32 s, .slice a len cap, .int .i64 t, .float .f32 b0, .float .f32 b1, .float .f32 b2, .float .f32 b3, .int .i64 y] 35)).alloc (by simp) (.cells #[.slice a0' len0 cap0', .float .f32 l, .float .f32 s, .slice a' len cap', .int .i64 t, .float .f32 b0, .float .f32 b1, .float .f32 b2, .float .f32 b3, .int .i64 y] 35))
  have C := Lib.hid ((CIs.newAt w [.slice a0 len0 cap0, .float .f32 l, .float .f32 s, .slice a len cap, .int .i64 t, .float .f32 b0, .float .f32 b1, .float .f32 b2, .float .f32 b3, .int .i64 y] 35 rfl).alloc (.cells #[.slice a0' len0 cap0', .float .f32 l, .float .f32 s, .slice a' len cap', .int .i64 t, .float .f32 b0, .float .f32 b1, .float .f32 b2, .float .f32 b3, .int .i64 y] 35))
  have C' := Lib.hid (CIs.newAt (w.alloc (.cells #[.slice a0 len0 cap0, .float .f32 l, .float .f32 s, .slice a len cap, .int .i64 t, .float .f32 b0, .float .f32 b1, .float .f32 b2, .float .f32 b3, .int .i64 y] 35)) [.slice a0' len0 cap0', .float .f32 l, .float .f32 s, .slice a' len cap', .int .i64 t, .float .f32 b0, .float .f32 b1, .float .f32 b2, .float .f32 b3, .int .i64 y] 35 (p := w.heap.size + 1) (by simp))
  have H0 := Lib.hid (FSl.below h0 G.out)
  have H0' := Lib.hid (FSl.below h0' G.out)
  have H := Lib.hid (FSl.below h G.out)
  have H' := Lib.hid (FSl.below h' G.out)
  clear h0 h0' h h'
  have hy : (y != y) = false := bne_self_eq_false _
  go_enter Try.func19, Try.ntmps19
  go_wp2_with fail
  refine (eqF_any _ _ _ _ _ _ _ _ H0.out H0'.out hm0 (fun _ _ => rfl)).mono ?_
  rintro e w1 ⟨n0, rfl, rfl⟩
  go_wp2_with fail
  refine (eqSt_any _ _ _ _ _ _ _ _ _ _ _ _ _ rfl rfl (FSl.drewN H.out n0) (FSl.drewN H'.out n0) hm (fun _ _ => rfl)).mono ?_
  rintro e w2 ⟨rfl, b⟩
  have G2 := Lib.hid ((below_drewN G.out n0).trans (b.mono (below_drewN G.out n0).size))
  have C2 := Lib.hid ((C.out.drewN n0).below b)
  have C2' := Lib.hid ((C'.out.drewN n0).below b)
  clear b C C'
  obtain ⟨k0, k1, k2, k3, k4, k5, k6, k7, k8, k9⟩ := C2.out.c10
  obtain ⟨q0, q1, q2, q3, q4, q5, q6, q7, q8, q9⟩ := C2'.out.c10
  go_wp2_with fail
  refine (eqSh_any _ _ _ _ _ _ _ _ _ rfl rfl rfl rfl).mono ?_
  rintro e w3 ⟨rfl, b⟩
  have G3 := Lib.hid (G2.out.trans (b.mono G2.out.size))
  have C3 := Lib.hid (C2.out.below b)
  have C3' := Lib.hid (C2'.out.below b)
  clear b C2 C2' k0 k1 k2 k3 k4 k5 k6 k7 k8 k9 q0 q1 q2 q3 q4 q5 q6 q7 q8 q9
  obtain ⟨k0, k1, k2, k3, k4, k5, k6, k7, k8, k9⟩ := C3.out.c10
  obtain ⟨q0, q1, q2, q3, q4, q5, q6, q7, q8, q9⟩ := C3'.out.c10
  go_wp2
  go_ret
  exact ⟨rfl, G3.out⟩
set_option maxHeartbeats 4000000 in
set_option maxRecDepth 100000 in
theorem toDk_any (a0 : Option Addr) (len0 cap0 : Nat) (z0 : List Nat) (l s : Nat) (a : Option Addr) (len cap : Nat) (zs : List Nat) (t : Int) (b0 b1 b2 b3 : Nat) (y : Int) (w : World) (h0 : FSl w a0 len0 z0) (h : FSl w a len zs) (hm0 : len0 ≤ 1048576) (hm : len ≤ 1048576) :
    Calls Try.prog 17 #[.agg #[.slice a0 len0 cap0, .float .f32 l, .float .f32 s, .slice a len cap, .int .i64 t, .float .f32 b0, .float .f32 b1, .float .f32 b2, .float .f32 b3, .int .i64 y]] w fun e w' =>
      ∃ A0 A p0 p, e = .returned (.agg #[.slice A0 len0 len0, .float .f32 l, .float .f32 s, .slice A len len, .int .i64 t, .float .f32 b0, .float .f32 b1, .float .f32 b2, .float .f32 b3, .int .i64 y]) ∧ Held w' A0 p0 len0 z0 ∧ Held w' A p len zs ∧ Below w.heap.size w w' := by
  have H0 := Lib.hid h0
  have H := Lib.hid h
  clear h0 h
  have HRES := Lib.hid (show Try.f17.results = #[.cell 2 35] by kernel_rfl)
  have G := Lib.hid ((((Below.refl w.heap.size w).alloc (Nat.le_refl _) (.cells #[.slice a0 len0 cap0, .float .f32 l, .float .f32 s, .slice a len cap, .int .i64 t, .float .f32 b0, .float .f32 b1, .float .f32 b2, .float .f32 b3, .int .i64 y] 29)).alloc (by simp) (.cells #[.slice none 0 0, .float .f32 0, .float .f32 0, .slice none 0 0, .int .i64 0, .float .f32 0, .float .f32 0, .float .f32 0, .float .f32 0, .int .i64 0] 35)).alloc (by simp; omega) (.cells #[.slice none 0 0, .float .f32 0, .float .f32 0, .slice none 0 0, .int .i64 0, .float .f32 0, .float .f32 0, .float .f32 0, .float .f32 0, .int .i64 0] 35))
  have CP := Lib.hid (((CIs.newAt w [.slice a0 len0 cap0, .float .f32 l, .float .f32 s, .slice a len cap, .int .i64 t, .float .f32 b0, .float .f32 b1, .float .f32 b2, .float .f32 b3, .int .i64 y] 29 rfl).alloc (.cells #[.slice none 0 0, .float .f32 0, .float .f32 0, .slice none 0 0, .int .i64 0, .float .f32 0, .float .f32 0, .float .f32 0, .float .f32 0, .int .i64 0] 35)).alloc (.cells #[.slice none 0 0, .float .f32 0, .float .f32 0, .slice none 0 0, .int .i64 0, .float .f32 0, .float .f32 0, .float .f32 0, .float .f32 0, .int .i64 0] 35))
  have CR := Lib.hid ((CIs.newAt (w.alloc (.cells #[.slice a0 len0 cap0, .float .f32 l, .float .f32 s, .slice a len cap, .int .i64 t, .float .f32 b0, .float .f32 b1, .float .f32 b2, .float .f32 b3, .int .i64 y] 29)) [.slice none 0 0, .float .f32 0, .float .f32 0, .slice none 0 0, .int .i64 0, .float .f32 0, .float .f32 0, .float .f32 0, .float .f32 0, .int .i64 0] 35 (p := w.heap.size + 1) (by simp)).alloc (.cells #[.slice none 0 0, .float .f32 0, .float .f32 0, .slice none 0 0, .int .i64 0, .float .f32 0, .float .f32 0, .float .f32 0, .float .f32 0, .int .i64 0] 35))
  have CO := Lib.hid (CIs.newAt ((w.alloc (.cells #[.slice a0 len0 cap0, .float .f32 l, .float .f32 s, .slice a len cap, .int .i64 t, .float .f32 b0, .float .f32 b1, .float .f32 b2, .float .f32 b3, .int .i64 y] 29)).alloc (.cells #[.slice none 0 0, .float .f32 0, .float .f32 0, .slice none 0 0, .int .i64 0, .float .f32 0, .float .f32 0, .float .f32 0, .float .f32 0, .int .i64 0] 35)) [.slice none 0 0, .float .f32 0, .float .f32 0, .slice none 0 0, .int .i64 0, .float .f32 0, .float .f32 0, .float .f32 0, .float .f32 0, .int .i64 0] 35 (p := w.heap.size + 1 + 1) (by simp))
  have hsz : w.heap.size + 1 + 1 < (((w.alloc (.cells #[.slice a0 len0 cap0, .float .f32 l, .float .f32 s, .slice a len cap, .int .i64 t, .float .f32 b0, .float .f32 b1, .float .f32 b2, .float .f32 b3, .int .i64 y] 29)).alloc (.cells #[.slice none 0 0, .float .f32 0, .float .f32 0, .slice none 0 0, .int .i64 0, .float .f32 0, .float .f32 0, .float .f32 0, .float .f32 0, .int .i64 0] 35)).alloc (.cells #[.slice none 0 0, .float .f32 0, .float .f32 0, .slice none 0 0, .int .i64 0, .float .f32 0, .float .f32 0, .float .f32 0, .float .f32 0, .int .i64 0] 35)).heap.size := by simp
  go_enter Try.func17, Try.ntmps17
  obtain ⟨k0, k1, k2, k3, k4, k5, k6, k7, k8, k9⟩ := CP.out.c10
  go_wp2_with fail
  generalize ((w.alloc (.cells #[.slice a0 len0 cap0, .float .f32 l, .float .f32 s, .slice a len cap, .int .i64 t, .float .f32 b0, .float .f32 b1, .float .f32 b2, .float .f32 b3, .int .i64 y] 29)).alloc (.cells #[.slice none 0 0, .float .f32 0, .float .f32 0, .slice none 0 0, .int .i64 0, .float .f32 0, .float .f32 0, .float .f32 0, .float .f32 0, .int .i64 0] 35)).alloc (.cells #[.slice none 0 0, .float .f32 0, .float .f32 0, .slice none 0 0, .int .i64 0, .float .f32 0, .float .f32 0, .float .f32 0, .float .f32 0, .int .i64 0] 35) = W at *
  refine (toFtE_any _ _ _ _ _ (FSl.below H0.out G.out) hm0).mono ?_
  rintro e w1 ⟨A0, p0, rfl, hh, bb, hp⟩
  clear k0 k1 k2 k3 k4 k5 k6 k7 k8 k9
  replace G := Lib.hid (G.out.trans (bb.mono G.out.size))
  replace CP := Lib.hid (CP.out.below bb)
  replace CR := Lib.hid (CR.out.below bb)
  replace CO := Lib.hid (CO.out.below bb)
  have X0 := Lib.hid hh
  have hp0 : w.heap.size + 1 + 1 < p0 := by omega
  have hs1 := bb.size
  clear hh bb hp
  obtain ⟨k0, k1, k2, k3, k4, k5, k6, k7, k8, k9⟩ := CP.out.c10
  obtain ⟨o0, o1, o2, o3, o4, o5, o6, o7, o8, o9⟩ := CO.out.c10
  obtain ⟨f0, f1, f2, f3, f4, f5, f6, f7, f8, f9⟩ := CO.out.f10
  have CO1 := Lib.hid (show CIs (w1.setCell ⟨w.heap.size + 1 + 1, 0, none⟩ (.slice A0 len0 len0)) (w.heap.size + 1 + 1) [.slice A0 len0 len0, .float .f32 0, .float .f32 0, .slice none 0 0, .int .i64 0, .float .f32 0, .float .f32 0, .float .f32 0, .float .f32 0, .int .i64 0] from CO.out.put (by simp))
  have CP1 := Lib.hid (CP.out.set (o := 0) (v := .slice A0 len0 len0) (show w.heap.size ≠ w.heap.size + 1 + 1 by omega))
  have CR1 := Lib.hid (CR.out.set (o := 0) (v := .slice A0 len0 len0) (show w.heap.size + 1 ≠ w.heap.size + 1 + 1 by omega))
  have G1 := Lib.hid (show Below w.heap.size w (w1.setCell ⟨w.heap.size + 1 + 1, 0, none⟩ (.slice A0 len0 len0)) from G.out.setCell (by show w.heap.size ≤ w.heap.size + 1 + 1; omega) _)
  have X01 := Lib.hid (X0.out.setC (c := w.heap.size + 1 + 1) (o := 0) (v := .slice A0 len0 len0) (by omega))
  have hs2 : w1.heap.size = (w1.setCell ⟨w.heap.size + 1 + 1, 0, none⟩ (.slice A0 len0 len0)).heap.size := by simp [World.setCell]
  clear CO CP CR G X0
  go_wp2_with fail
  refine (toStE_any _ _ _ _ _ _ _ _ (FSl.below H.out G1.out) hm).mono ?_
  rintro e w2 ⟨A, p, rfl, hh, bb, hp⟩
  clear k0 k1 k2 k3 k4 k5 k6 k7 k8 k9 o0 o1 o2 o3 o4 o5 o6 o7 o8 o9 f0 f1 f2 f3 f4 f5 f6 f7 f8 f9
  have hp1 : w.heap.size + 1 + 1 < p := by omega
  replace G1 := Lib.hid (G1.out.trans (bb.mono G1.out.size))
  replace CP1 := Lib.hid (CP1.out.below bb)
  replace CR1 := Lib.hid (CR1.out.below bb)
  replace CO1 := Lib.hid (CO1.out.below bb)
  replace X01 := Lib.hid (X01.out.below bb)
  have X1 := Lib.hid hh
  clear hh bb hp hs2
  obtain ⟨k0, k1, k2, k3, k4, k5, k6, k7, k8, k9⟩ := CP1.out.c10
  obtain ⟨o0, o1, o2, o3, o4, o5, o6, o7, o8, o9⟩ := CO1.out.c10
  obtain ⟨f0, f1, f2, f3, f4, f5, f6, f7, f8, f9⟩ := CO1.out.f10
  have CO2 := Lib.hid (show CIs ((((w2.setCell ⟨w.heap.size + 1 + 1, 1, none⟩ (.float .f32 l)).setCell ⟨w.heap.size + 1 + 1, 2, none⟩ (.float .f32 s)).setCell ⟨w.heap.size + 1 + 1, 3, none⟩ (.slice A len len)).setCell ⟨w.heap.size + 1 + 1, 4, none⟩ (.int .i64 t)) (w.heap.size + 1 + 1) [.slice A0 len0 len0, .float .f32 l, .float .f32 s, .slice A len len, .int .i64 t, .float .f32 0, .float .f32 0, .float .f32 0, .float .f32 0, .int .i64 0] from (CIs.put (CIs.put (CIs.put (CIs.put CO1.out (o := 1) (v := .float .f32 l) (by simp)) (o := 2) (v := .float .f32 s) (by simp)) (o := 3) (v := .slice A len len) (by simp)) (o := 4) (v := .int .i64 t) (by simp)))
  have CP2 := Lib.hid (CIs.set (CIs.set (CIs.set (CIs.set CP1.out (o := 1) (v := .float .f32 l) (show w.heap.size ≠ w.heap.size + 1 + 1 by omega)) (o := 2) (v := .float .f32 s) (show w.heap.size ≠ w.heap.size + 1 + 1 by omega)) (o := 3) (v := .slice A len len) (show w.heap.size ≠ w.heap.size + 1 + 1 by omega)) (o := 4) (v := .int .i64 t) (show w.heap.size ≠ w.heap.size + 1 + 1 by omega))
  have CR2 := Lib.hid (CIs.set (CIs.set (CIs.set (CIs.set CR1.out (o := 1) (v := .float .f32 l) (show w.heap.size + 1 ≠ w.heap.size + 1 + 1 by omega)) (o := 2) (v := .float .f32 s) (show w.heap.size + 1 ≠ w.heap.size + 1 + 1 by omega)) (o := 3) (v := .slice A len len) (show w.heap.size + 1 ≠ w.heap.size + 1 + 1 by omega)) (o := 4) (v := .int .i64 t) (show w.heap.size + 1 ≠ w.heap.size + 1 + 1 by omega))
  have G2 := Lib.hid (show Below w.heap.size w ((((w2.setCell ⟨w.heap.size + 1 + 1, 1, none⟩ (.float .f32 l)).setCell ⟨w.heap.size + 1 + 1, 2, none⟩ (.float .f32 s)).setCell ⟨w.heap.size + 1 + 1, 3, none⟩ (.slice A len len)).setCell ⟨w.heap.size + 1 + 1, 4, none⟩ (.int .i64 t)) from (Below.setCell (Below.setCell (Below.setCell (Below.setCell G1.out (by show w.heap.size ≤ w.heap.size + 1 + 1; omega) _) (by show w.heap.size ≤ w.heap.size + 1 + 1; omega) _) (by show w.heap.size ≤ w.heap.size + 1 + 1; omega) _) (by show w.heap.size ≤ w.heap.size + 1 + 1; omega) _))
  have X02 := Lib.hid (Held.setC (Held.setC (Held.setC (Held.setC X01.out (c := w.heap.size + 1 + 1) (o := 1) (v := .float .f32 l) (by omega)) (c := w.heap.size + 1 + 1) (o := 2) (v := .float .f32 s) (by omega)) (c := w.heap.size + 1 + 1) (o := 3) (v := .slice A len len) (by omega)) (c := w.heap.size + 1 + 1) (o := 4) (v := .int .i64 t) (by omega))
  have X2 := Lib.hid (Held.setC (Held.setC (Held.setC (Held.setC X1.out (c := w.heap.size + 1 + 1) (o := 1) (v := .float .f32 l) (by omega)) (c := w.heap.size + 1 + 1) (o := 2) (v := .float .f32 s) (by omega)) (c := w.heap.size + 1 + 1) (o := 3) (v := .slice A len len) (by omega)) (c := w.heap.size + 1 + 1) (o := 4) (v := .int .i64 t) (by omega))
  clear CO1 CP1 CR1 G1 X01 X1
  go_wp2_with fail
  refine (toSh_any _ _ _ _ _).mono ?_
  rintro e w3 ⟨rfl, bb⟩
  clear k0 k1 k2 k3 k4 k5 k6 k7 k8 k9 o0 o1 o2 o3 o4 o5 o6 o7 o8 o9 f0 f1 f2 f3 f4 f5 f6 f7 f8 f9
  replace G2 := Lib.hid (G2.out.trans (bb.mono G2.out.size))
  replace CP2 := Lib.hid (CP2.out.below bb)
  replace CR2 := Lib.hid (CR2.out.below bb)
  replace CO2 := Lib.hid (CO2.out.below bb)
  replace X02 := Lib.hid (X02.out.below bb)
  replace X2 := Lib.hid (X2.out.below bb)
  clear bb
  obtain ⟨k0, k1, k2, k3, k4, k5, k6, k7, k8, k9⟩ := CP2.out.c10
  obtain ⟨o0, o1, o2, o3, o4, o5, o6, o7, o8, o9⟩ := CO2.out.c10
  obtain ⟨f0, f1, f2, f3, f4, f5, f6, f7, f8, f9⟩ := CO2.out.f10
  obtain ⟨r0, r1, r2, r3, r4, r5, r6, r7, r8, r9⟩ := CR2.out.c10
  obtain ⟨g0, g1, g2, g3, g4, g5, g6, g7, g8, g9⟩ := CR2.out.f10
  go_wp2
  refine bodyPost_ret (v := .agg #[.slice A0 len0 len0, .float .f32 l, .float .f32 s, .slice A len len, .int .i64 t, .float .f32 b0, .float .f32 b1, .float .f32 b2, .float .f32 b3, .int .i64 y]) ?_ rfl ⟨A0, A, p0, p, rfl, ?_, ?_, ?_⟩
  · have hres := HRES.out
    simp only [results, hres]
    go_simp
  · exact (Held.setC (Held.setC (Held.setC (Held.setC (Held.setC (Held.setC (Held.setC (Held.setC (Held.setC (Held.setC (Held.setC (Held.setC (Held.setC (Held.setC (Held.setC X02.out (by omega)) (by omega)) (by omega)) (by omega)) (by omega)) (by omega)) (by omega)) (by omega)) (by omega)) (by omega)) (by omega)) (by omega)) (by omega)) (by omega)) (by omega))
  · exact (Held.setC (Held.setC (Held.setC (Held.setC (Held.setC (Held.setC (Held.setC (Held.setC (Held.setC (Held.setC (Held.setC (Held.setC (Held.setC (Held.setC (Held.setC X2.out (by omega)) (by omega)) (by omega)) (by omega)) (by omega)) (by omega)) (by omega)) (by omega)) (by omega)) (by omega)) (by omega)) (by omega)) (by omega)) (by omega)) (by omega))
  · exact (Below.setCell (Below.setCell (Below.setCell (Below.setCell (Below.setCell (Below.setCell (Below.setCell (Below.setCell (Below.setCell (Below.setCell (Below.setCell (Below.setCell (Below.setCell (Below.setCell (Below.setCell G2.out (by show w.heap.size ≤ w.heap.size + 1 + 1; omega) _) (by show w.heap.size ≤ w.heap.size + 1 + 1; omega) _) (by show w.heap.size ≤ w.heap.size + 1 + 1; omega) _) (by show w.heap.size ≤ w.heap.size + 1 + 1; omega) _) (by show w.heap.size ≤ w.heap.size + 1 + 1; omega) _) (by show w.heap.size ≤ w.heap.size + 1; omega) _) (by show w.heap.size ≤ w.heap.size + 1; omega) _) (by show w.heap.size ≤ w.heap.size + 1; omega) _) (by show w.heap.size ≤ w.heap.size + 1; omega) _) (by show w.heap.size ≤ w.heap.size + 1; omega) _) (by show w.heap.size ≤ w.heap.size + 1; omega) _) (by show w.heap.size ≤ w.heap.size + 1; omega) _) (by show w.heap.size ≤ w.heap.size + 1; omega) _) (by show w.heap.size ≤ w.heap.size + 1; omega) _) (by show w.heap.size ≤ w.heap.size + 1; omega) _)
end Go.Proofs.Ytdjlakjjgkhlmaa
