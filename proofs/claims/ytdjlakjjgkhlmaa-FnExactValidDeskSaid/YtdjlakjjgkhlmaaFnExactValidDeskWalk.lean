import Derived.Test.YtdjlakjjgkhlmaaDkv
import Derived.Test.YtdjlakjjgkhlmaaDsl
import Derived.Deep.RegionHeld3
namespace Go.Proofs.Ytdjlakjjgkhlmaa.fnExactValidDesk
open Go.RowKit Ieee
set_option linter.unusedVariables false
set_option maxHeartbeats 8000000 in
set_option maxRecDepth 100000 in
theorem walk (a0_0 : Option Addr) (len0_0 cap0_0 : Nat) (z0_0 : List Nat) (l0 s0 : Nat) (a0 : Option Addr) (len0 cap0 : Nat) (z0 : List Nat) (t0 : Int) (b0_0 b1_0 b2_0 b3_0 : Nat) (y0 : Int) (w : World) (w0_0 : FRow w a0_0 len0_0 cap0_0 z0_0) (w0 : FRow w a0 len0 cap0 z0) :
    Calls Try.prog 3 #[.agg #[.slice a0_0 len0_0 cap0_0, .float .f32 l0, .float .f32 s0, .slice a0 len0 cap0, .int .i64 t0, .float .f32 b0_0, .float .f32 b1_0, .float .f32 b2_0, .float .f32 b3_0, .int .i64 y0]] w fun e w' => e = .returned (.bool true) ∧ Below w.heap.size w w' := by
  obtain ⟨hs0_0, hlc0_0, hcm0_0, _⟩ := w0_0
  have H0_0 := Lib.hid hs0_0
  clear hs0_0
  obtain ⟨hs0, hlc0, hcm0, _⟩ := w0
  have H0 := Lib.hid hs0
  clear hs0
  have G := Lib.hid (Below.refl w.heap.size w)
  have B0 := Lib.hid (CIs.newAt w [.slice a0_0 len0_0 cap0_0, .float .f32 l0, .float .f32 s0, .slice a0 len0 cap0, .int .i64 t0, .float .f32 b0_0, .float .f32 b1_0, .float .f32 b2_0, .float .f32 b3_0, .int .i64 y0] 29 (p := w.heap.size) (by simp))
  replace G := Lib.hid (G.out.alloc (Nat.le_refl _) (.cells #[.slice a0_0 len0_0 cap0_0, .float .f32 l0, .float .f32 s0, .slice a0 len0 cap0, .int .i64 t0, .float .f32 b0_0, .float .f32 b1_0, .float .f32 b2_0, .float .f32 b3_0, .int .i64 y0] 29))
  by_cases hn0_0 : len0_0 ≤ 1048576
  rotate_left
  · skip
    go_enter Try.func3, Try.ntmps3
    obtain ⟨k_0, k_1, k_2, k_3, k_4, k_5, k_6, k_7, k_8, k_9⟩ := B0.out.c10
    go_wp2_with fail
    refine (szDk_no0 _ _ _ _ _ _ _ _ _ _ _ _ _ _ (1048576) _ (by omega) (by omega) (by unfold maxLen at *; omega)).mono ?_
    rintro e u1 ⟨rfl, b⟩
    clear k_0 k_1 k_2 k_3 k_4 k_5 k_6 k_7 k_8 k_9
    replace B0 := Lib.hid (B0.out.below b)
    replace G := Lib.hid (G.out.trans (b.mono G.out.size))
    clear b
    go_wp2
    go_ret
    exact ⟨rfl, G.out⟩
  by_cases hn1_0 : len0 ≤ 1048576 - len0_0
  rotate_left
  · skip
    go_enter Try.func3, Try.ntmps3
    obtain ⟨k_0, k_1, k_2, k_3, k_4, k_5, k_6, k_7, k_8, k_9⟩ := B0.out.c10
    go_wp2_with fail
    refine (szDk_no1 _ _ _ _ _ _ _ _ _ _ _ _ _ _ (1048576) _ (by omega) (by omega) (by omega) (by unfold maxLen at *; omega)).mono ?_
    rintro e u2 ⟨rfl, b⟩
    clear k_0 k_1 k_2 k_3 k_4 k_5 k_6 k_7 k_8 k_9
    replace B0 := Lib.hid (B0.out.below b)
    replace G := Lib.hid (G.out.trans (b.mono G.out.size))
    clear b
    go_wp2
    go_ret
    exact ⟨rfl, G.out⟩
  have hm0_0 : len0_0 ≤ 1048576 := by omega
  have hm0 : len0 ≤ 1048576 := by omega
  go_enter Try.func3, Try.ntmps3
  have hd0 : decide (((1048576 - len0_0 - len0 : Nat) : Int) < 0) = false := decide_eq_false (by omega)
  obtain ⟨k_0, k_1, k_2, k_3, k_4, k_5, k_6, k_7, k_8, k_9⟩ := B0.out.c10
  go_wp2_with fail
  refine (szDk_any _ _ _ _ _ _ _ _ _ _ _ _ _ _ (1048576) _ (by omega) (by omega) (by omega) ).mono ?_
  rintro e u3 ⟨rfl, b⟩
  clear k_0 k_1 k_2 k_3 k_4 k_5 k_6 k_7 k_8 k_9
  replace B0 := Lib.hid (B0.out.below b)
  replace G := Lib.hid (G.out.trans (b.mono G.out.size))
  clear b
  obtain ⟨k_0, k_1, k_2, k_3, k_4, k_5, k_6, k_7, k_8, k_9⟩ := B0.out.c10
  go_wp2_with fail
  refine (toDk_any a0_0 len0_0 cap0_0 z0_0 l0 s0 a0 len0 cap0 z0 t0 b0_0 b1_0 b2_0 b3_0 y0 _ (FSl.below H0_0.out G.out) (FSl.below H0.out G.out) hm0_0 hm0).mono ?_
  rintro e u4 ⟨S0_0, S0, sp0_0, sp0, rfl, t0_0, t0, b⟩
  clear k_0 k_1 k_2 k_3 k_4 k_5 k_6 k_7 k_8 k_9
  replace B0 := Lib.hid (B0.out.below b)
  replace G := Lib.hid (G.out.trans (b.mono G.out.size))
  clear b
  have T0_0 := Lib.hid t0_0
  clear t0_0
  have T0 := Lib.hid t0
  clear t0
  go_wp2_with fail
  refine (spVDk_any _ _ _ _ _ _ _ _ _ _ _ _ _ _ _ _ _ T0_0.out.sl T0.out.sl hm0_0 hm0).mono ?_
  rintro e u5 ⟨rfl, b⟩
  replace B0 := Lib.hid (B0.out.below b)
  replace G := Lib.hid (G.out.trans (b.mono G.out.size))
  clear b
  clear T0_0 T0
  obtain ⟨k_0, k_1, k_2, k_3, k_4, k_5, k_6, k_7, k_8, k_9⟩ := B0.out.c10
  go_wp2_with fail
  refine (toDk_any a0_0 len0_0 cap0_0 z0_0 l0 s0 a0 len0 cap0 z0 t0 b0_0 b1_0 b2_0 b3_0 y0 _ (FSl.below H0_0.out G.out) (FSl.below H0.out G.out) hm0_0 hm0).mono ?_
  rintro e u6 ⟨A0_0, A0, p0_0, p0, rfl, t0_0, t0, b⟩
  clear k_0 k_1 k_2 k_3 k_4 k_5 k_6 k_7 k_8 k_9
  replace B0 := Lib.hid (B0.out.below b)
  replace G := Lib.hid (G.out.trans (b.mono G.out.size))
  clear b
  have X0_0 := Lib.hid t0_0
  clear t0_0
  have X0 := Lib.hid t0
  clear t0
  have ba := (Below.refl u6.heap.size u6).alloc (Nat.le_refl _) (.cells #[.slice A0_0 len0_0 len0_0, .float .f32 l0, .float .f32 s0, .slice A0 len0 len0, .int .i64 t0, .float .f32 b0_0, .float .f32 b1_0, .float .f32 b2_0, .float .f32 b3_0, .int .i64 y0] 35)
  replace B0 := Lib.hid (B0.out.below ba)
  replace X0_0 := Lib.hid (X0_0.out.below ba)
  replace X0 := Lib.hid (X0.out.below ba)
  replace G := Lib.hid (G.out.trans (ba.mono G.out.size))
  clear ba
  have BX0 := Lib.hid (CIs.newAt u6 [.slice A0_0 len0_0 len0_0, .float .f32 l0, .float .f32 s0, .slice A0 len0 len0, .int .i64 t0, .float .f32 b0_0, .float .f32 b1_0, .float .f32 b2_0, .float .f32 b3_0, .int .i64 y0] 35 (p := u6.heap.size) rfl)
  obtain ⟨kx0_0, kx0_1, kx0_2, kx0_3, kx0_4, kx0_5, kx0_6, kx0_7, kx0_8, kx0_9⟩ := BX0.out.c10
  go_wp2_with fail
  refine (imVDk_any A0_0 len0_0 len0_0 z0_0 l0 s0 A0 len0 len0 z0 t0 b0_0 b1_0 b2_0 b3_0 y0 _ X0_0.out.sl X0.out.sl hm0_0 hm0).mono ?_
  rintro e u7 ⟨rfl, b⟩
  clear kx0_0 kx0_1 kx0_2 kx0_3 kx0_4 kx0_5 kx0_6 kx0_7 kx0_8 kx0_9
  replace B0 := Lib.hid (B0.out.below b)
  replace X0_0 := Lib.hid (X0_0.out.below b)
  replace X0 := Lib.hid (X0.out.below b)
  replace BX0 := Lib.hid (BX0.out.below b)
  replace G := Lib.hid (G.out.trans (b.mono G.out.size))
  clear b
  obtain ⟨kBX0_0, kBX0_1, kBX0_2, kBX0_3, kBX0_4, kBX0_5, kBX0_6, kBX0_7, kBX0_8, kBX0_9⟩ := BX0.out.c10
  obtain ⟨kB0_0, kB0_1, kB0_2, kB0_3, kB0_4, kB0_5, kB0_6, kB0_7, kB0_8, kB0_9⟩ := B0.out.c10
  go_wp2_with fail
  go_region_held3 (fun w' => w'.cell? ⟨u6.heap.size, 0, none⟩ = some (.slice A0_0 len0_0 len0_0) ∧ w'.cell? ⟨u6.heap.size, 1, none⟩ = some (.float .f32 l0) ∧ w'.cell? ⟨u6.heap.size, 2, none⟩ = some (.float .f32 s0) ∧ w'.cell? ⟨u6.heap.size, 3, none⟩ = some (.slice A0 len0 len0) ∧ w'.cell? ⟨u6.heap.size, 4, none⟩ = some (.int .i64 t0) ∧ w'.cell? ⟨u6.heap.size, 5, none⟩ = some (.float .f32 b0_0) ∧ w'.cell? ⟨u6.heap.size, 6, none⟩ = some (.float .f32 b1_0) ∧ w'.cell? ⟨u6.heap.size, 7, none⟩ = some (.float .f32 b2_0) ∧ w'.cell? ⟨u6.heap.size, 8, none⟩ = some (.float .f32 b3_0) ∧ w'.cell? ⟨u6.heap.size, 9, none⟩ = some (.int .i64 y0) ∧ w'.cell? ⟨w.heap.size, 0, none⟩ = some (.slice a0_0 len0_0 cap0_0) ∧ w'.cell? ⟨w.heap.size, 1, none⟩ = some (.float .f32 l0) ∧ w'.cell? ⟨w.heap.size, 2, none⟩ = some (.float .f32 s0) ∧ w'.cell? ⟨w.heap.size, 3, none⟩ = some (.slice a0 len0 cap0) ∧ w'.cell? ⟨w.heap.size, 4, none⟩ = some (.int .i64 t0) ∧ w'.cell? ⟨w.heap.size, 5, none⟩ = some (.float .f32 b0_0) ∧ w'.cell? ⟨w.heap.size, 6, none⟩ = some (.float .f32 b1_0) ∧ w'.cell? ⟨w.heap.size, 7, none⟩ = some (.float .f32 b2_0) ∧ w'.cell? ⟨w.heap.size, 8, none⟩ = some (.float .f32 b3_0) ∧ w'.cell? ⟨w.heap.size, 9, none⟩ = some (.int .i64 y0)) (first | exact ⟨(((((BX0.out.drew)).below hb1)).below hb2).c10.1, (((((BX0.out.drew)).below hb1)).below hb2).c10.2.1, (((((BX0.out.drew)).below hb1)).below hb2).c10.2.2.1, (((((BX0.out.drew)).below hb1)).below hb2).c10.2.2.2.1, (((((BX0.out.drew)).below hb1)).below hb2).c10.2.2.2.2.1, (((((BX0.out.drew)).below hb1)).below hb2).c10.2.2.2.2.2.1, (((((BX0.out.drew)).below hb1)).below hb2).c10.2.2.2.2.2.2.1, (((((BX0.out.drew)).below hb1)).below hb2).c10.2.2.2.2.2.2.2.1, (((((BX0.out.drew)).below hb1)).below hb2).c10.2.2.2.2.2.2.2.2.1, (((((BX0.out.drew)).below hb1)).below hb2).c10.2.2.2.2.2.2.2.2.2, (((((B0.out.drew)).below hb1)).below hb2).c10.1, (((((B0.out.drew)).below hb1)).below hb2).c10.2.1, (((((B0.out.drew)).below hb1)).below hb2).c10.2.2.1, (((((B0.out.drew)).below hb1)).below hb2).c10.2.2.2.1, (((((B0.out.drew)).below hb1)).below hb2).c10.2.2.2.2.1, (((((B0.out.drew)).below hb1)).below hb2).c10.2.2.2.2.2.1, (((((B0.out.drew)).below hb1)).below hb2).c10.2.2.2.2.2.2.1, (((((B0.out.drew)).below hb1)).below hb2).c10.2.2.2.2.2.2.2.1, (((((B0.out.drew)).below hb1)).below hb2).c10.2.2.2.2.2.2.2.2.1, (((((B0.out.drew)).below hb1)).below hb2).c10.2.2.2.2.2.2.2.2.2⟩ | exact ⟨(((BX0.out.drew)).below hb1).c10.1, (((BX0.out.drew)).below hb1).c10.2.1, (((BX0.out.drew)).below hb1).c10.2.2.1, (((BX0.out.drew)).below hb1).c10.2.2.2.1, (((BX0.out.drew)).below hb1).c10.2.2.2.2.1, (((BX0.out.drew)).below hb1).c10.2.2.2.2.2.1, (((BX0.out.drew)).below hb1).c10.2.2.2.2.2.2.1, (((BX0.out.drew)).below hb1).c10.2.2.2.2.2.2.2.1, (((BX0.out.drew)).below hb1).c10.2.2.2.2.2.2.2.2.1, (((BX0.out.drew)).below hb1).c10.2.2.2.2.2.2.2.2.2, (((B0.out.drew)).below hb1).c10.1, (((B0.out.drew)).below hb1).c10.2.1, (((B0.out.drew)).below hb1).c10.2.2.1, (((B0.out.drew)).below hb1).c10.2.2.2.1, (((B0.out.drew)).below hb1).c10.2.2.2.2.1, (((B0.out.drew)).below hb1).c10.2.2.2.2.2.1, (((B0.out.drew)).below hb1).c10.2.2.2.2.2.2.1, (((B0.out.drew)).below hb1).c10.2.2.2.2.2.2.2.1, (((B0.out.drew)).below hb1).c10.2.2.2.2.2.2.2.2.1, (((B0.out.drew)).below hb1).c10.2.2.2.2.2.2.2.2.2⟩ | exact ⟨(BX0.out.drew).c10.1, (BX0.out.drew).c10.2.1, (BX0.out.drew).c10.2.2.1, (BX0.out.drew).c10.2.2.2.1, (BX0.out.drew).c10.2.2.2.2.1, (BX0.out.drew).c10.2.2.2.2.2.1, (BX0.out.drew).c10.2.2.2.2.2.2.1, (BX0.out.drew).c10.2.2.2.2.2.2.2.1, (BX0.out.drew).c10.2.2.2.2.2.2.2.2.1, (BX0.out.drew).c10.2.2.2.2.2.2.2.2.2, (B0.out.drew).c10.1, (B0.out.drew).c10.2.1, (B0.out.drew).c10.2.2.1, (B0.out.drew).c10.2.2.2.1, (B0.out.drew).c10.2.2.2.2.1, (B0.out.drew).c10.2.2.2.2.2.1, (B0.out.drew).c10.2.2.2.2.2.2.1, (B0.out.drew).c10.2.2.2.2.2.2.2.1, (B0.out.drew).c10.2.2.2.2.2.2.2.2.1, (B0.out.drew).c10.2.2.2.2.2.2.2.2.2⟩ | go_keep)
    ((first
      | (go_at_call 17; refine (toDk_any a0_0 len0_0 cap0_0 z0_0 l0 s0 a0 len0 cap0 z0 t0 b0_0 b1_0 b2_0 b3_0 y0 _ (FSl.below H0_0.out (below_drewN G.out 1)) (FSl.below H0.out (below_drewN G.out 1)) hm0_0 hm0).mono ?_; rintro e u8 ⟨E0_0, E0, e0_0, e0, rfl, hE0_0, hE0, hb1⟩)
      | (go_at_call 19; refine (eqDk_any A0_0 E0_0 len0_0 len0_0 len0_0 z0_0 l0 s0 A0 E0 len0 len0 len0 z0 t0 b0_0 b1_0 b2_0 b3_0 y0 _ ((((X0_0.out.dw)).below hb1).sl) hE0_0.sl ((((X0.out.dw)).below hb1).sl) hE0.sl hm0_0 hm0).mono ?_; rintro e u9 ⟨rfl, hb2⟩)
      ))
  clear kBX0_0 kBX0_1 kBX0_2 kBX0_3 kBX0_4 kBX0_5 kBX0_6 kBX0_7 kBX0_8 kBX0_9
  clear kB0_0 kB0_1 kB0_2 kB0_3 kB0_4 kB0_5 kB0_6 kB0_7 kB0_8 kB0_9
  replace B0 := Lib.hid (((((B0.out.drew)).below hb1)).below hb2)
  replace X0_0 := Lib.hid (((((X0_0.out.dw)).below hb1)).below hb2)
  replace X0 := Lib.hid (((((X0.out.dw)).below hb1)).below hb2)
  replace BX0 := Lib.hid (((((BX0.out.drew)).below hb1)).below hb2)
  replace G := Lib.hid (((below_drewN G.out 1).trans (hb1.mono (below_drewN G.out 1).size)).trans (hb2.mono ((below_drewN G.out 1).trans (hb1.mono (below_drewN G.out 1).size)).size))
  clear hb1 hb2
  clear hE0_0 hE0
  go_wp2
  go_ret
  exact ⟨rfl, G.out⟩
end Go.Proofs.Ytdjlakjjgkhlmaa.fnExactValidDesk
