import Derived.Test.YtdjlakjjgkhlmaaSmu
import Derived.Test.YtdjlakjjgkhlmaaSte
import Derived.Deep.RegionHeld3
namespace Go.Proofs.Ytdjlakjjgkhlmaa.fnExactSameState
open Go.RowKit Ieee
set_option linter.unusedVariables false
set_option maxHeartbeats 8000000 in
set_option maxRecDepth 100000 in
theorem walk (l0 s0 : Nat) (a0 : Option Addr) (len0 cap0 : Nat) (z0 : List Nat) (t0 : Int) (l1 s1 : Nat) (a1 : Option Addr) (len1 cap1 : Nat) (z1 : List Nat) (t1 : Int) (w : World) (w0 : FRow w a0 len0 cap0 z0) (x0 : (Lit.int .i64 t0).wf = true) (w1 : FRow w a1 len1 cap1 z1) (x1 : (Lit.int .i64 t1).wf = true) :
    Calls Try.prog 5 #[.agg #[.float .f32 l0, .float .f32 s0, .slice a0 len0 cap0, .int .i64 t0], .agg #[.float .f32 l1, .float .f32 s1, .slice a1 len1 cap1, .int .i64 t1]] w fun e w' => e = .returned (.bool true) ∧ Below w.heap.size w w' := by
  obtain ⟨hs0, hlc0, hcm0, _⟩ := w0
  have H0 := Lib.hid hs0
  clear hs0
  obtain ⟨hs1, hlc1, hcm1, _⟩ := w1
  have H1 := Lib.hid hs1
  clear hs1
  have G := Lib.hid (Below.refl w.heap.size w)
  have B0 := Lib.hid (CIs.newAt w [.float .f32 l0, .float .f32 s0, .slice a0 len0 cap0, .int .i64 t0] 25 (p := w.heap.size) (by simp))
  replace G := Lib.hid (G.out.alloc (Nat.le_refl _) (.cells #[.float .f32 l0, .float .f32 s0, .slice a0 len0 cap0, .int .i64 t0] 25))
  have B1 := Lib.hid (CIs.newAt (w.alloc (.cells #[.float .f32 l0, .float .f32 s0, .slice a0 len0 cap0, .int .i64 t0] 25)) [.float .f32 l1, .float .f32 s1, .slice a1 len1 cap1, .int .i64 t1] 25 (p := w.heap.size + 1) (by simp))
  replace B0 := Lib.hid (B0.out.alloc (.cells #[.float .f32 l1, .float .f32 s1, .slice a1 len1 cap1, .int .i64 t1] 25))
  replace G := Lib.hid (G.out.alloc (by simp; try omega) (.cells #[.float .f32 l1, .float .f32 s1, .slice a1 len1 cap1, .int .i64 t1] 25))
  by_cases hn0_0 : len0 ≤ 1048576
  rotate_left
  · skip
    go_enter Try.func5, Try.ntmps5
    obtain ⟨k_0, k_1, k_2, k_3⟩ := B0.out.c4
    go_wp2_with fail
    refine (szSt_no0 _ _ _ _ _ _ (1048576) _ (by omega) (by omega) (by unfold maxLen at *; omega)).mono ?_
    rintro e u1 ⟨rfl, b⟩
    clear k_0 k_1 k_2 k_3
    replace B0 := Lib.hid (B0.out.below b)
    replace B1 := Lib.hid (B1.out.below b)
    replace G := Lib.hid (G.out.trans (b.mono G.out.size))
    clear b
    go_wp2
    go_ret
    exact ⟨rfl, G.out⟩
  by_cases hn0_1 : len1 ≤ 1048576 - len0
  rotate_left
  · skip
    go_enter Try.func5, Try.ntmps5
    obtain ⟨k_0, k_1, k_2, k_3⟩ := B0.out.c4
    go_wp2_with fail
    refine (szSt_any _ _ _ _ _ _ (1048576) _ (by omega) (by omega) ).mono ?_
    rintro e u2 ⟨rfl, b⟩
    clear k_0 k_1 k_2 k_3
    replace B0 := Lib.hid (B0.out.below b)
    replace B1 := Lib.hid (B1.out.below b)
    replace G := Lib.hid (G.out.trans (b.mono G.out.size))
    clear b
    obtain ⟨k_0, k_1, k_2, k_3⟩ := B1.out.c4
    go_wp2_with fail
    refine (szSt_no0 _ _ _ _ _ _ (1048576 - len0) _ (by omega) (by omega) (by unfold maxLen at *; omega)).mono ?_
    rintro e u3 ⟨rfl, b⟩
    clear k_0 k_1 k_2 k_3
    replace B0 := Lib.hid (B0.out.below b)
    replace B1 := Lib.hid (B1.out.below b)
    replace G := Lib.hid (G.out.trans (b.mono G.out.size))
    clear b
    go_wp2
    go_ret
    exact ⟨rfl, G.out⟩
  have hm0 : len0 ≤ 1048576 := by omega
  have hm1 : len1 ≤ 1048576 := by omega
  go_enter Try.func5, Try.ntmps5
  have hd0 : decide (((1048576 - len0 : Nat) : Int) < 0) = false := decide_eq_false (by omega)
  obtain ⟨k_0, k_1, k_2, k_3⟩ := B0.out.c4
  go_wp2_with fail
  refine (szSt_any _ _ _ _ _ _ (1048576) _ (by omega) (by omega) ).mono ?_
  rintro e u4 ⟨rfl, b⟩
  clear k_0 k_1 k_2 k_3
  replace B0 := Lib.hid (B0.out.below b)
  replace B1 := Lib.hid (B1.out.below b)
  replace G := Lib.hid (G.out.trans (b.mono G.out.size))
  clear b
  have hd1 : decide (((1048576 - len0 - len1 : Nat) : Int) < 0) = false := decide_eq_false (by omega)
  obtain ⟨k_0, k_1, k_2, k_3⟩ := B1.out.c4
  go_wp2_with fail
  refine (szSt_any _ _ _ _ _ _ (1048576 - len0) _ (by omega) (by omega) ).mono ?_
  rintro e u5 ⟨rfl, b⟩
  clear k_0 k_1 k_2 k_3
  replace B0 := Lib.hid (B0.out.below b)
  replace B1 := Lib.hid (B1.out.below b)
  replace G := Lib.hid (G.out.trans (b.mono G.out.size))
  clear b
  obtain ⟨kB0_0, kB0_1, kB0_2, kB0_3⟩ := B0.out.c4
  obtain ⟨kB1_0, kB1_1, kB1_2, kB1_3⟩ := B1.out.c4
  go_wp2_with fail
  go_region_held3 (fun w' => w'.cell? ⟨w.heap.size, 0, none⟩ = some (.float .f32 l0) ∧ w'.cell? ⟨w.heap.size, 1, none⟩ = some (.float .f32 s0) ∧ w'.cell? ⟨w.heap.size, 2, none⟩ = some (.slice a0 len0 cap0) ∧ w'.cell? ⟨w.heap.size, 3, none⟩ = some (.int .i64 t0) ∧ w'.cell? ⟨w.heap.size + 1, 0, none⟩ = some (.float .f32 l1) ∧ w'.cell? ⟨w.heap.size + 1, 1, none⟩ = some (.float .f32 s1) ∧ w'.cell? ⟨w.heap.size + 1, 2, none⟩ = some (.slice a1 len1 cap1) ∧ w'.cell? ⟨w.heap.size + 1, 3, none⟩ = some (.int .i64 t1)) (first | exact ⟨(((((((B0.out.drew)).below hb1)).below hb2)).below hb3).c4.1, (((((((B0.out.drew)).below hb1)).below hb2)).below hb3).c4.2.1, (((((((B0.out.drew)).below hb1)).below hb2)).below hb3).c4.2.2.1, (((((((B0.out.drew)).below hb1)).below hb2)).below hb3).c4.2.2.2, (((((((B1.out.drew)).below hb1)).below hb2)).below hb3).c4.1, (((((((B1.out.drew)).below hb1)).below hb2)).below hb3).c4.2.1, (((((((B1.out.drew)).below hb1)).below hb2)).below hb3).c4.2.2.1, (((((((B1.out.drew)).below hb1)).below hb2)).below hb3).c4.2.2.2⟩ | exact ⟨(((((B0.out.drew)).below hb1)).below hb2).c4.1, (((((B0.out.drew)).below hb1)).below hb2).c4.2.1, (((((B0.out.drew)).below hb1)).below hb2).c4.2.2.1, (((((B0.out.drew)).below hb1)).below hb2).c4.2.2.2, (((((B1.out.drew)).below hb1)).below hb2).c4.1, (((((B1.out.drew)).below hb1)).below hb2).c4.2.1, (((((B1.out.drew)).below hb1)).below hb2).c4.2.2.1, (((((B1.out.drew)).below hb1)).below hb2).c4.2.2.2⟩ | exact ⟨(((B0.out.drew)).below hb1).c4.1, (((B0.out.drew)).below hb1).c4.2.1, (((B0.out.drew)).below hb1).c4.2.2.1, (((B0.out.drew)).below hb1).c4.2.2.2, (((B1.out.drew)).below hb1).c4.1, (((B1.out.drew)).below hb1).c4.2.1, (((B1.out.drew)).below hb1).c4.2.2.1, (((B1.out.drew)).below hb1).c4.2.2.2⟩ | exact ⟨(B0.out.drew).c4.1, (B0.out.drew).c4.2.1, (B0.out.drew).c4.2.2.1, (B0.out.drew).c4.2.2.2, (B1.out.drew).c4.1, (B1.out.drew).c4.2.1, (B1.out.drew).c4.2.2.1, (B1.out.drew).c4.2.2.2⟩ | go_keep)
    ((first
      | (go_at_call 23; refine (spSmt_any l0 s0 S0 len0 len0 z0 t0 l1 s1 S1 len1 len1 z1 t1 _ ((hS0.below hb2)).sl (hS1).sl hm0 hm1).mono ?_; rintro e u8 ⟨rfl, hb3⟩)
      | (go_at_call 24; refine (toStE_any l1 s1 a1 len1 cap1 z1 t1 _ (FSl.below H1.out ((below_drewN G.out 1).trans (hb1.mono (below_drewN G.out 1).size))) hm1).mono ?_; rintro e u7 ⟨S1, pS1, rfl, hS1, hb2⟩)
      | (go_at_call 24; refine (toStE_any l0 s0 a0 len0 cap0 z0 t0 _ (FSl.below H0.out (below_drewN G.out 1)) hm0).mono ?_; rintro e u6 ⟨S0, pS0, rfl, hS0, hb1⟩)
      ))
  clear kB0_0 kB0_1 kB0_2 kB0_3
  clear kB1_0 kB1_1 kB1_2 kB1_3
  replace B0 := Lib.hid (((((((B0.out.drew)).below hb1)).below hb2)).below hb3)
  replace B1 := Lib.hid (((((((B1.out.drew)).below hb1)).below hb2)).below hb3)
  replace G := Lib.hid ((((below_drewN G.out 1).trans (hb1.mono (below_drewN G.out 1).size)).trans (hb2.mono ((below_drewN G.out 1).trans (hb1.mono (below_drewN G.out 1).size)).size)).trans (hb3.mono (((below_drewN G.out 1).trans (hb1.mono (below_drewN G.out 1).size)).trans (hb2.mono ((below_drewN G.out 1).trans (hb1.mono (below_drewN G.out 1).size)).size)).size))
  clear hb1 hb2 hb3
  clear hS0 hS1
  obtain ⟨k_0, k_1, k_2, k_3⟩ := B0.out.c4
  go_wp2_with fail
  refine (toStE_any l0 s0 a0 len0 cap0 z0 t0 _ (FSl.below H0.out G.out) hm0).mono ?_
  rintro e u9 ⟨A0, p0, rfl, t0, b⟩
  clear k_0 k_1 k_2 k_3
  replace B0 := Lib.hid (B0.out.below b)
  replace B1 := Lib.hid (B1.out.below b)
  replace G := Lib.hid (G.out.trans (b.mono G.out.size))
  clear b
  have X0 := Lib.hid t0
  clear t0
  have ba := (Below.refl u9.heap.size u9).alloc (Nat.le_refl _) (.cells #[.float .f32 l0, .float .f32 s0, .slice A0 len0 len0, .int .i64 t0] 32)
  replace B0 := Lib.hid (B0.out.below ba)
  replace B1 := Lib.hid (B1.out.below ba)
  replace X0 := Lib.hid (X0.out.below ba)
  replace G := Lib.hid (G.out.trans (ba.mono G.out.size))
  clear ba
  have BX0 := Lib.hid (CIs.newAt u9 [.float .f32 l0, .float .f32 s0, .slice A0 len0 len0, .int .i64 t0] 32 (p := u9.heap.size) rfl)
  obtain ⟨k_0, k_1, k_2, k_3⟩ := B1.out.c4
  go_wp2_with fail
  refine (toStE_any l1 s1 a1 len1 cap1 z1 t1 _ (FSl.below H1.out G.out) hm1).mono ?_
  rintro e u10 ⟨A1, p1, rfl, t1, b⟩
  clear k_0 k_1 k_2 k_3
  replace B0 := Lib.hid (B0.out.below b)
  replace B1 := Lib.hid (B1.out.below b)
  replace X0 := Lib.hid (X0.out.below b)
  replace BX0 := Lib.hid (BX0.out.below b)
  replace G := Lib.hid (G.out.trans (b.mono G.out.size))
  clear b
  have X1 := Lib.hid t1
  clear t1
  have ba := (Below.refl u10.heap.size u10).alloc (Nat.le_refl _) (.cells #[.float .f32 l1, .float .f32 s1, .slice A1 len1 len1, .int .i64 t1] 32)
  replace B0 := Lib.hid (B0.out.below ba)
  replace B1 := Lib.hid (B1.out.below ba)
  replace X0 := Lib.hid (X0.out.below ba)
  replace BX0 := Lib.hid (BX0.out.below ba)
  replace X1 := Lib.hid (X1.out.below ba)
  replace G := Lib.hid (G.out.trans (ba.mono G.out.size))
  clear ba
  have BX1 := Lib.hid (CIs.newAt u10 [.float .f32 l1, .float .f32 s1, .slice A1 len1 len1, .int .i64 t1] 32 (p := u10.heap.size) rfl)
  obtain ⟨kx0_0, kx0_1, kx0_2, kx0_3⟩ := BX0.out.c4
  obtain ⟨kx1_0, kx1_1, kx1_2, kx1_3⟩ := BX1.out.c4
  go_wp2_with fail
  refine (imSmt_any l0 s0 A0 len0 len0 z0 t0 l1 s1 A1 len1 len1 z1 t1 _ X0.out.sl X1.out.sl hm0 hm1).mono ?_
  rintro e u11 ⟨rfl, b⟩
  clear kx0_0 kx0_1 kx0_2 kx0_3
  clear kx1_0 kx1_1 kx1_2 kx1_3
  replace B0 := Lib.hid (B0.out.below b)
  replace B1 := Lib.hid (B1.out.below b)
  replace X0 := Lib.hid (X0.out.below b)
  replace BX0 := Lib.hid (BX0.out.below b)
  replace X1 := Lib.hid (X1.out.below b)
  replace BX1 := Lib.hid (BX1.out.below b)
  replace G := Lib.hid (G.out.trans (b.mono G.out.size))
  clear b
  obtain ⟨kBX0_0, kBX0_1, kBX0_2, kBX0_3⟩ := BX0.out.c4
  obtain ⟨kB0_0, kB0_1, kB0_2, kB0_3⟩ := B0.out.c4
  go_wp2_with fail
  go_region_held3 (fun w' => w'.cell? ⟨u9.heap.size, 0, none⟩ = some (.float .f32 l0) ∧ w'.cell? ⟨u9.heap.size, 1, none⟩ = some (.float .f32 s0) ∧ w'.cell? ⟨u9.heap.size, 2, none⟩ = some (.slice A0 len0 len0) ∧ w'.cell? ⟨u9.heap.size, 3, none⟩ = some (.int .i64 t0) ∧ w'.cell? ⟨w.heap.size, 0, none⟩ = some (.float .f32 l0) ∧ w'.cell? ⟨w.heap.size, 1, none⟩ = some (.float .f32 s0) ∧ w'.cell? ⟨w.heap.size, 2, none⟩ = some (.slice a0 len0 cap0) ∧ w'.cell? ⟨w.heap.size, 3, none⟩ = some (.int .i64 t0)) (first | exact ⟨(((((BX0.out.drew)).below hb1)).below hb2).c4.1, (((((BX0.out.drew)).below hb1)).below hb2).c4.2.1, (((((BX0.out.drew)).below hb1)).below hb2).c4.2.2.1, (((((BX0.out.drew)).below hb1)).below hb2).c4.2.2.2, (((((B0.out.drew)).below hb1)).below hb2).c4.1, (((((B0.out.drew)).below hb1)).below hb2).c4.2.1, (((((B0.out.drew)).below hb1)).below hb2).c4.2.2.1, (((((B0.out.drew)).below hb1)).below hb2).c4.2.2.2⟩ | exact ⟨(((BX0.out.drew)).below hb1).c4.1, (((BX0.out.drew)).below hb1).c4.2.1, (((BX0.out.drew)).below hb1).c4.2.2.1, (((BX0.out.drew)).below hb1).c4.2.2.2, (((B0.out.drew)).below hb1).c4.1, (((B0.out.drew)).below hb1).c4.2.1, (((B0.out.drew)).below hb1).c4.2.2.1, (((B0.out.drew)).below hb1).c4.2.2.2⟩ | exact ⟨(BX0.out.drew).c4.1, (BX0.out.drew).c4.2.1, (BX0.out.drew).c4.2.2.1, (BX0.out.drew).c4.2.2.2, (B0.out.drew).c4.1, (B0.out.drew).c4.2.1, (B0.out.drew).c4.2.2.1, (B0.out.drew).c4.2.2.2⟩ | go_keep)
    ((first
      | (go_at_call 26; refine (eqStE_any l0 s0 A0 E0 len0 len0 len0 z0 t0 _ ((((X0.out.dw)).below hb1).sl) hE0.sl hm0).mono ?_; rintro e u13 ⟨rfl, hb2⟩)
      | (go_at_call 24; refine (toStE_any l0 s0 a0 len0 cap0 z0 t0 _ (FSl.below H0.out (below_drewN G.out 1)) hm0).mono ?_; rintro e u12 ⟨E0, e0, rfl, hE0, hb1⟩)
      ))
  clear kBX0_0 kBX0_1 kBX0_2 kBX0_3
  clear kB0_0 kB0_1 kB0_2 kB0_3
  replace B0 := Lib.hid (((((B0.out.drew)).below hb1)).below hb2)
  replace B1 := Lib.hid (((((B1.out.drew)).below hb1)).below hb2)
  replace X0 := Lib.hid (((((X0.out.dw)).below hb1)).below hb2)
  replace BX0 := Lib.hid (((((BX0.out.drew)).below hb1)).below hb2)
  replace X1 := Lib.hid (((((X1.out.dw)).below hb1)).below hb2)
  replace BX1 := Lib.hid (((((BX1.out.drew)).below hb1)).below hb2)
  replace G := Lib.hid (((below_drewN G.out 1).trans (hb1.mono (below_drewN G.out 1).size)).trans (hb2.mono ((below_drewN G.out 1).trans (hb1.mono (below_drewN G.out 1).size)).size))
  clear hb1 hb2
  clear hE0
  obtain ⟨kBX1_0, kBX1_1, kBX1_2, kBX1_3⟩ := BX1.out.c4
  obtain ⟨kB1_0, kB1_1, kB1_2, kB1_3⟩ := B1.out.c4
  go_wp2_with fail
  go_region_held3 (fun w' => w'.cell? ⟨u10.heap.size, 0, none⟩ = some (.float .f32 l1) ∧ w'.cell? ⟨u10.heap.size, 1, none⟩ = some (.float .f32 s1) ∧ w'.cell? ⟨u10.heap.size, 2, none⟩ = some (.slice A1 len1 len1) ∧ w'.cell? ⟨u10.heap.size, 3, none⟩ = some (.int .i64 t1) ∧ w'.cell? ⟨w.heap.size + 1, 0, none⟩ = some (.float .f32 l1) ∧ w'.cell? ⟨w.heap.size + 1, 1, none⟩ = some (.float .f32 s1) ∧ w'.cell? ⟨w.heap.size + 1, 2, none⟩ = some (.slice a1 len1 cap1) ∧ w'.cell? ⟨w.heap.size + 1, 3, none⟩ = some (.int .i64 t1)) (first | exact ⟨(((((BX1.out.drew)).below hb1)).below hb2).c4.1, (((((BX1.out.drew)).below hb1)).below hb2).c4.2.1, (((((BX1.out.drew)).below hb1)).below hb2).c4.2.2.1, (((((BX1.out.drew)).below hb1)).below hb2).c4.2.2.2, (((((B1.out.drew)).below hb1)).below hb2).c4.1, (((((B1.out.drew)).below hb1)).below hb2).c4.2.1, (((((B1.out.drew)).below hb1)).below hb2).c4.2.2.1, (((((B1.out.drew)).below hb1)).below hb2).c4.2.2.2⟩ | exact ⟨(((BX1.out.drew)).below hb1).c4.1, (((BX1.out.drew)).below hb1).c4.2.1, (((BX1.out.drew)).below hb1).c4.2.2.1, (((BX1.out.drew)).below hb1).c4.2.2.2, (((B1.out.drew)).below hb1).c4.1, (((B1.out.drew)).below hb1).c4.2.1, (((B1.out.drew)).below hb1).c4.2.2.1, (((B1.out.drew)).below hb1).c4.2.2.2⟩ | exact ⟨(BX1.out.drew).c4.1, (BX1.out.drew).c4.2.1, (BX1.out.drew).c4.2.2.1, (BX1.out.drew).c4.2.2.2, (B1.out.drew).c4.1, (B1.out.drew).c4.2.1, (B1.out.drew).c4.2.2.1, (B1.out.drew).c4.2.2.2⟩ | go_keep)
    ((first
      | (go_at_call 26; refine (eqStE_any l1 s1 A1 E1 len1 len1 len1 z1 t1 _ ((((X1.out.dw)).below hb1).sl) hE1.sl hm1).mono ?_; rintro e u15 ⟨rfl, hb2⟩)
      | (go_at_call 24; refine (toStE_any l1 s1 a1 len1 cap1 z1 t1 _ (FSl.below H1.out (below_drewN G.out 1)) hm1).mono ?_; rintro e u14 ⟨E1, e1, rfl, hE1, hb1⟩)
      ))
  clear kBX1_0 kBX1_1 kBX1_2 kBX1_3
  clear kB1_0 kB1_1 kB1_2 kB1_3
  replace B0 := Lib.hid (((((B0.out.drew)).below hb1)).below hb2)
  replace B1 := Lib.hid (((((B1.out.drew)).below hb1)).below hb2)
  replace X0 := Lib.hid (((((X0.out.dw)).below hb1)).below hb2)
  replace BX0 := Lib.hid (((((BX0.out.drew)).below hb1)).below hb2)
  replace X1 := Lib.hid (((((X1.out.dw)).below hb1)).below hb2)
  replace BX1 := Lib.hid (((((BX1.out.drew)).below hb1)).below hb2)
  replace G := Lib.hid (((below_drewN G.out 1).trans (hb1.mono (below_drewN G.out 1).size)).trans (hb2.mono ((below_drewN G.out 1).trans (hb1.mono (below_drewN G.out 1).size)).size))
  clear hb1 hb2
  clear hE1
  go_wp2
  go_ret
  exact ⟨rfl, G.out⟩
end Go.Proofs.Ytdjlakjjgkhlmaa.fnExactSameState
