import Derived.Test.YtdjlakjjgkhlmaaSdi
import Derived.Test.YtdjlakjjgkhlmaaSdp
import Derived.Test.YtdjlakjjgkhlmaaDsl
import Derived.Deep.RegionHeld3
namespace Go.Proofs.Ytdjlakjjgkhlmaa.fnExactSameDesk
open Go.RowKit Ieee
set_option linter.unusedVariables false
set_option maxHeartbeats 8000000 in
set_option maxRecDepth 100000 in
theorem walk (a0_0 : Option Addr) (len0_0 cap0_0 : Nat) (z0_0 : List Nat) (l0 s0 : Nat) (a0 : Option Addr) (len0 cap0 : Nat) (z0 : List Nat) (t0 : Int) (b0_0 b1_0 b2_0 b3_0 : Nat) (y0 : Int) (a0_1 : Option Addr) (len0_1 cap0_1 : Nat) (z0_1 : List Nat) (l1 s1 : Nat) (a1 : Option Addr) (len1 cap1 : Nat) (z1 : List Nat) (t1 : Int) (b0_1 b1_1 b2_1 b3_1 : Nat) (y1 : Int) (w : World) (w0_0 : FRow w a0_0 len0_0 cap0_0 z0_0) (w0 : FRow w a0 len0 cap0 z0) (w0_1 : FRow w a0_1 len0_1 cap0_1 z0_1) (w1 : FRow w a1 len1 cap1 z1) :
    Calls Try.prog 4 #[.agg #[.slice a0_0 len0_0 cap0_0, .float .f32 l0, .float .f32 s0, .slice a0 len0 cap0, .int .i64 t0, .float .f32 b0_0, .float .f32 b1_0, .float .f32 b2_0, .float .f32 b3_0, .int .i64 y0], .agg #[.slice a0_1 len0_1 cap0_1, .float .f32 l1, .float .f32 s1, .slice a1 len1 cap1, .int .i64 t1, .float .f32 b0_1, .float .f32 b1_1, .float .f32 b2_1, .float .f32 b3_1, .int .i64 y1]] w fun e w' => e = .returned (.bool true) ∧ Below w.heap.size w w' := by
  obtain ⟨hs0_0, hlc0_0, hcm0_0, _⟩ := w0_0
  have H0_0 := Lib.hid hs0_0
  clear hs0_0
  obtain ⟨hs0, hlc0, hcm0, _⟩ := w0
  have H0 := Lib.hid hs0
  clear hs0
  obtain ⟨hs0_1, hlc0_1, hcm0_1, _⟩ := w0_1
  have H0_1 := Lib.hid hs0_1
  clear hs0_1
  obtain ⟨hs1, hlc1, hcm1, _⟩ := w1
  have H1 := Lib.hid hs1
  clear hs1
  have G := Lib.hid (Below.refl w.heap.size w)
  have B0 := Lib.hid (CIs.newAt w [.slice a0_0 len0_0 cap0_0, .float .f32 l0, .float .f32 s0, .slice a0 len0 cap0, .int .i64 t0, .float .f32 b0_0, .float .f32 b1_0, .float .f32 b2_0, .float .f32 b3_0, .int .i64 y0] 29 (p := w.heap.size) (by simp))
  replace G := Lib.hid (G.out.alloc (Nat.le_refl _) (.cells #[.slice a0_0 len0_0 cap0_0, .float .f32 l0, .float .f32 s0, .slice a0 len0 cap0, .int .i64 t0, .float .f32 b0_0, .float .f32 b1_0, .float .f32 b2_0, .float .f32 b3_0, .int .i64 y0] 29))
  have B1 := Lib.hid (CIs.newAt (w.alloc (.cells #[.slice a0_0 len0_0 cap0_0, .float .f32 l0, .float .f32 s0, .slice a0 len0 cap0, .int .i64 t0, .float .f32 b0_0, .float .f32 b1_0, .float .f32 b2_0, .float .f32 b3_0, .int .i64 y0] 29)) [.slice a0_1 len0_1 cap0_1, .float .f32 l1, .float .f32 s1, .slice a1 len1 cap1, .int .i64 t1, .float .f32 b0_1, .float .f32 b1_1, .float .f32 b2_1, .float .f32 b3_1, .int .i64 y1] 29 (p := w.heap.size + 1) (by simp))
  replace B0 := Lib.hid (B0.out.alloc (.cells #[.slice a0_1 len0_1 cap0_1, .float .f32 l1, .float .f32 s1, .slice a1 len1 cap1, .int .i64 t1, .float .f32 b0_1, .float .f32 b1_1, .float .f32 b2_1, .float .f32 b3_1, .int .i64 y1] 29))
  replace G := Lib.hid (G.out.alloc (by simp; try omega) (.cells #[.slice a0_1 len0_1 cap0_1, .float .f32 l1, .float .f32 s1, .slice a1 len1 cap1, .int .i64 t1, .float .f32 b0_1, .float .f32 b1_1, .float .f32 b2_1, .float .f32 b3_1, .int .i64 y1] 29))
  by_cases hn0_0 : len0_0 ≤ 1048576
  rotate_left
  · skip
    go_enter Try.func4, Try.ntmps4
    obtain ⟨k_0, k_1, k_2, k_3, k_4, k_5, k_6, k_7, k_8, k_9⟩ := B0.out.c10
    go_wp2_with fail
    refine (szDk_no0 _ _ _ _ _ _ _ _ _ _ _ _ _ _ (1048576) _ (by omega) (by omega) (by unfold maxLen at *; omega)).mono ?_
    rintro e u1 ⟨rfl, b⟩
    clear k_0 k_1 k_2 k_3 k_4 k_5 k_6 k_7 k_8 k_9
    replace B0 := Lib.hid (B0.out.below b)
    replace B1 := Lib.hid (B1.out.below b)
    replace G := Lib.hid (G.out.trans (b.mono G.out.size))
    clear b
    go_wp2
    go_ret
    exact ⟨rfl, G.out⟩
  by_cases hn1_0 : len0 ≤ 1048576 - len0_0
  rotate_left
  · skip
    go_enter Try.func4, Try.ntmps4
    obtain ⟨k_0, k_1, k_2, k_3, k_4, k_5, k_6, k_7, k_8, k_9⟩ := B0.out.c10
    go_wp2_with fail
    refine (szDk_no1 _ _ _ _ _ _ _ _ _ _ _ _ _ _ (1048576) _ (by omega) (by omega) (by omega) (by unfold maxLen at *; omega)).mono ?_
    rintro e u2 ⟨rfl, b⟩
    clear k_0 k_1 k_2 k_3 k_4 k_5 k_6 k_7 k_8 k_9
    replace B0 := Lib.hid (B0.out.below b)
    replace B1 := Lib.hid (B1.out.below b)
    replace G := Lib.hid (G.out.trans (b.mono G.out.size))
    clear b
    go_wp2
    go_ret
    exact ⟨rfl, G.out⟩
  by_cases hn0_1 : len0_1 ≤ 1048576 - len0_0 - len0
  rotate_left
  · skip
    go_enter Try.func4, Try.ntmps4
    obtain ⟨k_0, k_1, k_2, k_3, k_4, k_5, k_6, k_7, k_8, k_9⟩ := B0.out.c10
    go_wp2_with fail
    refine (szDk_any _ _ _ _ _ _ _ _ _ _ _ _ _ _ (1048576) _ (by omega) (by omega) (by omega) ).mono ?_
    rintro e u3 ⟨rfl, b⟩
    clear k_0 k_1 k_2 k_3 k_4 k_5 k_6 k_7 k_8 k_9
    replace B0 := Lib.hid (B0.out.below b)
    replace B1 := Lib.hid (B1.out.below b)
    replace G := Lib.hid (G.out.trans (b.mono G.out.size))
    clear b
    obtain ⟨k_0, k_1, k_2, k_3, k_4, k_5, k_6, k_7, k_8, k_9⟩ := B1.out.c10
    go_wp2_with fail
    refine (szDk_no0 _ _ _ _ _ _ _ _ _ _ _ _ _ _ (1048576 - len0_0 - len0) _ (by omega) (by omega) (by unfold maxLen at *; omega)).mono ?_
    rintro e u4 ⟨rfl, b⟩
    clear k_0 k_1 k_2 k_3 k_4 k_5 k_6 k_7 k_8 k_9
    replace B0 := Lib.hid (B0.out.below b)
    replace B1 := Lib.hid (B1.out.below b)
    replace G := Lib.hid (G.out.trans (b.mono G.out.size))
    clear b
    go_wp2
    go_ret
    exact ⟨rfl, G.out⟩
  by_cases hn1_1 : len1 ≤ 1048576 - len0_0 - len0 - len0_1
  rotate_left
  · skip
    go_enter Try.func4, Try.ntmps4
    obtain ⟨k_0, k_1, k_2, k_3, k_4, k_5, k_6, k_7, k_8, k_9⟩ := B0.out.c10
    go_wp2_with fail
    refine (szDk_any _ _ _ _ _ _ _ _ _ _ _ _ _ _ (1048576) _ (by omega) (by omega) (by omega) ).mono ?_
    rintro e u5 ⟨rfl, b⟩
    clear k_0 k_1 k_2 k_3 k_4 k_5 k_6 k_7 k_8 k_9
    replace B0 := Lib.hid (B0.out.below b)
    replace B1 := Lib.hid (B1.out.below b)
    replace G := Lib.hid (G.out.trans (b.mono G.out.size))
    clear b
    obtain ⟨k_0, k_1, k_2, k_3, k_4, k_5, k_6, k_7, k_8, k_9⟩ := B1.out.c10
    go_wp2_with fail
    refine (szDk_no1 _ _ _ _ _ _ _ _ _ _ _ _ _ _ (1048576 - len0_0 - len0) _ (by omega) (by omega) (by omega) (by unfold maxLen at *; omega)).mono ?_
    rintro e u6 ⟨rfl, b⟩
    clear k_0 k_1 k_2 k_3 k_4 k_5 k_6 k_7 k_8 k_9
    replace B0 := Lib.hid (B0.out.below b)
    replace B1 := Lib.hid (B1.out.below b)
    replace G := Lib.hid (G.out.trans (b.mono G.out.size))
    clear b
    go_wp2
    go_ret
    exact ⟨rfl, G.out⟩
  have hm0_0 : len0_0 ≤ 1048576 := by omega
  have hm0 : len0 ≤ 1048576 := by omega
  have hm0_1 : len0_1 ≤ 1048576 := by omega
  have hm1 : len1 ≤ 1048576 := by omega
  go_enter Try.func4, Try.ntmps4
  have hd0 : decide (((1048576 - len0_0 - len0 : Nat) : Int) < 0) = false := decide_eq_false (by omega)
  obtain ⟨k_0, k_1, k_2, k_3, k_4, k_5, k_6, k_7, k_8, k_9⟩ := B0.out.c10
  go_wp2_with fail
  refine (szDk_any _ _ _ _ _ _ _ _ _ _ _ _ _ _ (1048576) _ (by omega) (by omega) (by omega) ).mono ?_
  rintro e u7 ⟨rfl, b⟩
  clear k_0 k_1 k_2 k_3 k_4 k_5 k_6 k_7 k_8 k_9
  replace B0 := Lib.hid (B0.out.below b)
  replace B1 := Lib.hid (B1.out.below b)
  replace G := Lib.hid (G.out.trans (b.mono G.out.size))
  clear b
  have hd1 : decide (((1048576 - len0_0 - len0 - len0_1 - len1 : Nat) : Int) < 0) = false := decide_eq_false (by omega)
  obtain ⟨k_0, k_1, k_2, k_3, k_4, k_5, k_6, k_7, k_8, k_9⟩ := B1.out.c10
  go_wp2_with fail
  refine (szDk_any _ _ _ _ _ _ _ _ _ _ _ _ _ _ (1048576 - len0_0 - len0) _ (by omega) (by omega) (by omega) ).mono ?_
  rintro e u8 ⟨rfl, b⟩
  clear k_0 k_1 k_2 k_3 k_4 k_5 k_6 k_7 k_8 k_9
  replace B0 := Lib.hid (B0.out.below b)
  replace B1 := Lib.hid (B1.out.below b)
  replace G := Lib.hid (G.out.trans (b.mono G.out.size))
  clear b
  obtain ⟨kB0_0, kB0_1, kB0_2, kB0_3, kB0_4, kB0_5, kB0_6, kB0_7, kB0_8, kB0_9⟩ := B0.out.c10
  obtain ⟨kB1_0, kB1_1, kB1_2, kB1_3, kB1_4, kB1_5, kB1_6, kB1_7, kB1_8, kB1_9⟩ := B1.out.c10
  go_wp2_with fail
  go_region_held3 (fun w' => w'.cell? ⟨w.heap.size, 0, none⟩ = some (.slice a0_0 len0_0 cap0_0) ∧ w'.cell? ⟨w.heap.size, 1, none⟩ = some (.float .f32 l0) ∧ w'.cell? ⟨w.heap.size, 2, none⟩ = some (.float .f32 s0) ∧ w'.cell? ⟨w.heap.size, 3, none⟩ = some (.slice a0 len0 cap0) ∧ w'.cell? ⟨w.heap.size, 4, none⟩ = some (.int .i64 t0) ∧ w'.cell? ⟨w.heap.size, 5, none⟩ = some (.float .f32 b0_0) ∧ w'.cell? ⟨w.heap.size, 6, none⟩ = some (.float .f32 b1_0) ∧ w'.cell? ⟨w.heap.size, 7, none⟩ = some (.float .f32 b2_0) ∧ w'.cell? ⟨w.heap.size, 8, none⟩ = some (.float .f32 b3_0) ∧ w'.cell? ⟨w.heap.size, 9, none⟩ = some (.int .i64 y0) ∧ w'.cell? ⟨w.heap.size + 1, 0, none⟩ = some (.slice a0_1 len0_1 cap0_1) ∧ w'.cell? ⟨w.heap.size + 1, 1, none⟩ = some (.float .f32 l1) ∧ w'.cell? ⟨w.heap.size + 1, 2, none⟩ = some (.float .f32 s1) ∧ w'.cell? ⟨w.heap.size + 1, 3, none⟩ = some (.slice a1 len1 cap1) ∧ w'.cell? ⟨w.heap.size + 1, 4, none⟩ = some (.int .i64 t1) ∧ w'.cell? ⟨w.heap.size + 1, 5, none⟩ = some (.float .f32 b0_1) ∧ w'.cell? ⟨w.heap.size + 1, 6, none⟩ = some (.float .f32 b1_1) ∧ w'.cell? ⟨w.heap.size + 1, 7, none⟩ = some (.float .f32 b2_1) ∧ w'.cell? ⟨w.heap.size + 1, 8, none⟩ = some (.float .f32 b3_1) ∧ w'.cell? ⟨w.heap.size + 1, 9, none⟩ = some (.int .i64 y1)) (first | exact ⟨(((((((B0.out.drew)).below hb1)).below hb2)).below hb3).c10.1, (((((((B0.out.drew)).below hb1)).below hb2)).below hb3).c10.2.1, (((((((B0.out.drew)).below hb1)).below hb2)).below hb3).c10.2.2.1, (((((((B0.out.drew)).below hb1)).below hb2)).below hb3).c10.2.2.2.1, (((((((B0.out.drew)).below hb1)).below hb2)).below hb3).c10.2.2.2.2.1, (((((((B0.out.drew)).below hb1)).below hb2)).below hb3).c10.2.2.2.2.2.1, (((((((B0.out.drew)).below hb1)).below hb2)).below hb3).c10.2.2.2.2.2.2.1, (((((((B0.out.drew)).below hb1)).below hb2)).below hb3).c10.2.2.2.2.2.2.2.1, (((((((B0.out.drew)).below hb1)).below hb2)).below hb3).c10.2.2.2.2.2.2.2.2.1, (((((((B0.out.drew)).below hb1)).below hb2)).below hb3).c10.2.2.2.2.2.2.2.2.2, (((((((B1.out.drew)).below hb1)).below hb2)).below hb3).c10.1, (((((((B1.out.drew)).below hb1)).below hb2)).below hb3).c10.2.1, (((((((B1.out.drew)).below hb1)).below hb2)).below hb3).c10.2.2.1, (((((((B1.out.drew)).below hb1)).below hb2)).below hb3).c10.2.2.2.1, (((((((B1.out.drew)).below hb1)).below hb2)).below hb3).c10.2.2.2.2.1, (((((((B1.out.drew)).below hb1)).below hb2)).below hb3).c10.2.2.2.2.2.1, (((((((B1.out.drew)).below hb1)).below hb2)).below hb3).c10.2.2.2.2.2.2.1, (((((((B1.out.drew)).below hb1)).below hb2)).below hb3).c10.2.2.2.2.2.2.2.1, (((((((B1.out.drew)).below hb1)).below hb2)).below hb3).c10.2.2.2.2.2.2.2.2.1, (((((((B1.out.drew)).below hb1)).below hb2)).below hb3).c10.2.2.2.2.2.2.2.2.2⟩ | exact ⟨(((((B0.out.drew)).below hb1)).below hb2).c10.1, (((((B0.out.drew)).below hb1)).below hb2).c10.2.1, (((((B0.out.drew)).below hb1)).below hb2).c10.2.2.1, (((((B0.out.drew)).below hb1)).below hb2).c10.2.2.2.1, (((((B0.out.drew)).below hb1)).below hb2).c10.2.2.2.2.1, (((((B0.out.drew)).below hb1)).below hb2).c10.2.2.2.2.2.1, (((((B0.out.drew)).below hb1)).below hb2).c10.2.2.2.2.2.2.1, (((((B0.out.drew)).below hb1)).below hb2).c10.2.2.2.2.2.2.2.1, (((((B0.out.drew)).below hb1)).below hb2).c10.2.2.2.2.2.2.2.2.1, (((((B0.out.drew)).below hb1)).below hb2).c10.2.2.2.2.2.2.2.2.2, (((((B1.out.drew)).below hb1)).below hb2).c10.1, (((((B1.out.drew)).below hb1)).below hb2).c10.2.1, (((((B1.out.drew)).below hb1)).below hb2).c10.2.2.1, (((((B1.out.drew)).below hb1)).below hb2).c10.2.2.2.1, (((((B1.out.drew)).below hb1)).below hb2).c10.2.2.2.2.1, (((((B1.out.drew)).below hb1)).below hb2).c10.2.2.2.2.2.1, (((((B1.out.drew)).below hb1)).below hb2).c10.2.2.2.2.2.2.1, (((((B1.out.drew)).below hb1)).below hb2).c10.2.2.2.2.2.2.2.1, (((((B1.out.drew)).below hb1)).below hb2).c10.2.2.2.2.2.2.2.2.1, (((((B1.out.drew)).below hb1)).below hb2).c10.2.2.2.2.2.2.2.2.2⟩ | exact ⟨(((B0.out.drew)).below hb1).c10.1, (((B0.out.drew)).below hb1).c10.2.1, (((B0.out.drew)).below hb1).c10.2.2.1, (((B0.out.drew)).below hb1).c10.2.2.2.1, (((B0.out.drew)).below hb1).c10.2.2.2.2.1, (((B0.out.drew)).below hb1).c10.2.2.2.2.2.1, (((B0.out.drew)).below hb1).c10.2.2.2.2.2.2.1, (((B0.out.drew)).below hb1).c10.2.2.2.2.2.2.2.1, (((B0.out.drew)).below hb1).c10.2.2.2.2.2.2.2.2.1, (((B0.out.drew)).below hb1).c10.2.2.2.2.2.2.2.2.2, (((B1.out.drew)).below hb1).c10.1, (((B1.out.drew)).below hb1).c10.2.1, (((B1.out.drew)).below hb1).c10.2.2.1, (((B1.out.drew)).below hb1).c10.2.2.2.1, (((B1.out.drew)).below hb1).c10.2.2.2.2.1, (((B1.out.drew)).below hb1).c10.2.2.2.2.2.1, (((B1.out.drew)).below hb1).c10.2.2.2.2.2.2.1, (((B1.out.drew)).below hb1).c10.2.2.2.2.2.2.2.1, (((B1.out.drew)).below hb1).c10.2.2.2.2.2.2.2.2.1, (((B1.out.drew)).below hb1).c10.2.2.2.2.2.2.2.2.2⟩ | exact ⟨(B0.out.drew).c10.1, (B0.out.drew).c10.2.1, (B0.out.drew).c10.2.2.1, (B0.out.drew).c10.2.2.2.1, (B0.out.drew).c10.2.2.2.2.1, (B0.out.drew).c10.2.2.2.2.2.1, (B0.out.drew).c10.2.2.2.2.2.2.1, (B0.out.drew).c10.2.2.2.2.2.2.2.1, (B0.out.drew).c10.2.2.2.2.2.2.2.2.1, (B0.out.drew).c10.2.2.2.2.2.2.2.2.2, (B1.out.drew).c10.1, (B1.out.drew).c10.2.1, (B1.out.drew).c10.2.2.1, (B1.out.drew).c10.2.2.2.1, (B1.out.drew).c10.2.2.2.2.1, (B1.out.drew).c10.2.2.2.2.2.1, (B1.out.drew).c10.2.2.2.2.2.2.1, (B1.out.drew).c10.2.2.2.2.2.2.2.1, (B1.out.drew).c10.2.2.2.2.2.2.2.2.1, (B1.out.drew).c10.2.2.2.2.2.2.2.2.2⟩ | go_keep)
    ((first
      | (go_at_call 20; refine (spSdk_any S0_0 len0_0 len0_0 z0_0 l0 s0 S0 len0 len0 z0 t0 b0_0 b1_0 b2_0 b3_0 y0 S0_1 len0_1 len0_1 z0_1 l1 s1 S1 len1 len1 z1 t1 b0_1 b1_1 b2_1 b3_1 y1 _ ((hS0_0.below hb2)).sl ((hS0.below hb2)).sl (hS0_1).sl (hS1).sl hm0_0 hm0 hm0_1 hm1).mono ?_; rintro e u11 ⟨rfl, hb3⟩)
      | (go_at_call 17; refine (toDk_any a0_1 len0_1 cap0_1 z0_1 l1 s1 a1 len1 cap1 z1 t1 b0_1 b1_1 b2_1 b3_1 y1 _ (FSl.below H0_1.out ((below_drewN G.out 1).trans (hb1.mono (below_drewN G.out 1).size))) (FSl.below H1.out ((below_drewN G.out 1).trans (hb1.mono (below_drewN G.out 1).size))) hm0_1 hm1).mono ?_; rintro e u10 ⟨S0_1, S1, pS0_1, pS1, rfl, hS0_1, hS1, hb2⟩)
      | (go_at_call 17; refine (toDk_any a0_0 len0_0 cap0_0 z0_0 l0 s0 a0 len0 cap0 z0 t0 b0_0 b1_0 b2_0 b3_0 y0 _ (FSl.below H0_0.out (below_drewN G.out 1)) (FSl.below H0.out (below_drewN G.out 1)) hm0_0 hm0).mono ?_; rintro e u9 ⟨S0_0, S0, pS0_0, pS0, rfl, hS0_0, hS0, hb1⟩)
      ))
  clear kB0_0 kB0_1 kB0_2 kB0_3 kB0_4 kB0_5 kB0_6 kB0_7 kB0_8 kB0_9
  clear kB1_0 kB1_1 kB1_2 kB1_3 kB1_4 kB1_5 kB1_6 kB1_7 kB1_8 kB1_9
  replace B0 := Lib.hid (((((((B0.out.drew)).below hb1)).below hb2)).below hb3)
  replace B1 := Lib.hid (((((((B1.out.drew)).below hb1)).below hb2)).below hb3)
  replace G := Lib.hid ((((below_drewN G.out 1).trans (hb1.mono (below_drewN G.out 1).size)).trans (hb2.mono ((below_drewN G.out 1).trans (hb1.mono (below_drewN G.out 1).size)).size)).trans (hb3.mono (((below_drewN G.out 1).trans (hb1.mono (below_drewN G.out 1).size)).trans (hb2.mono ((below_drewN G.out 1).trans (hb1.mono (below_drewN G.out 1).size)).size)).size))
  clear hb1 hb2 hb3
  clear hS0_0 hS0 hS0_1 hS1
  obtain ⟨k_0, k_1, k_2, k_3, k_4, k_5, k_6, k_7, k_8, k_9⟩ := B0.out.c10
  go_wp2_with fail
  refine (toDk_any a0_0 len0_0 cap0_0 z0_0 l0 s0 a0 len0 cap0 z0 t0 b0_0 b1_0 b2_0 b3_0 y0 _ (FSl.below H0_0.out G.out) (FSl.below H0.out G.out) hm0_0 hm0).mono ?_
  rintro e u12 ⟨A0_0, A0, p0_0, p0, rfl, t0_0, t0, b⟩
  clear k_0 k_1 k_2 k_3 k_4 k_5 k_6 k_7 k_8 k_9
  replace B0 := Lib.hid (B0.out.below b)
  replace B1 := Lib.hid (B1.out.below b)
  replace G := Lib.hid (G.out.trans (b.mono G.out.size))
  clear b
  have X0_0 := Lib.hid t0_0
  clear t0_0
  have X0 := Lib.hid t0
  clear t0
  have ba := (Below.refl u12.heap.size u12).alloc (Nat.le_refl _) (.cells #[.slice A0_0 len0_0 len0_0, .float .f32 l0, .float .f32 s0, .slice A0 len0 len0, .int .i64 t0, .float .f32 b0_0, .float .f32 b1_0, .float .f32 b2_0, .float .f32 b3_0, .int .i64 y0] 35)
  replace B0 := Lib.hid (B0.out.below ba)
  replace B1 := Lib.hid (B1.out.below ba)
  replace X0_0 := Lib.hid (X0_0.out.below ba)
  replace X0 := Lib.hid (X0.out.below ba)
  replace G := Lib.hid (G.out.trans (ba.mono G.out.size))
  clear ba
  have BX0 := Lib.hid (CIs.newAt u12 [.slice A0_0 len0_0 len0_0, .float .f32 l0, .float .f32 s0, .slice A0 len0 len0, .int .i64 t0, .float .f32 b0_0, .float .f32 b1_0, .float .f32 b2_0, .float .f32 b3_0, .int .i64 y0] 35 (p := u12.heap.size) rfl)
  obtain ⟨k_0, k_1, k_2, k_3, k_4, k_5, k_6, k_7, k_8, k_9⟩ := B1.out.c10
  go_wp2_with fail
  refine (toDk_any a0_1 len0_1 cap0_1 z0_1 l1 s1 a1 len1 cap1 z1 t1 b0_1 b1_1 b2_1 b3_1 y1 _ (FSl.below H0_1.out G.out) (FSl.below H1.out G.out) hm0_1 hm1).mono ?_
  rintro e u13 ⟨A0_1, A1, p0_1, p1, rfl, t0_1, t1, b⟩
  clear k_0 k_1 k_2 k_3 k_4 k_5 k_6 k_7 k_8 k_9
  replace B0 := Lib.hid (B0.out.below b)
  replace B1 := Lib.hid (B1.out.below b)
  replace X0_0 := Lib.hid (X0_0.out.below b)
  replace X0 := Lib.hid (X0.out.below b)
  replace BX0 := Lib.hid (BX0.out.below b)
  replace G := Lib.hid (G.out.trans (b.mono G.out.size))
  clear b
  have X0_1 := Lib.hid t0_1
  clear t0_1
  have X1 := Lib.hid t1
  clear t1
  have ba := (Below.refl u13.heap.size u13).alloc (Nat.le_refl _) (.cells #[.slice A0_1 len0_1 len0_1, .float .f32 l1, .float .f32 s1, .slice A1 len1 len1, .int .i64 t1, .float .f32 b0_1, .float .f32 b1_1, .float .f32 b2_1, .float .f32 b3_1, .int .i64 y1] 35)
  replace B0 := Lib.hid (B0.out.below ba)
  replace B1 := Lib.hid (B1.out.below ba)
  replace X0_0 := Lib.hid (X0_0.out.below ba)
  replace X0 := Lib.hid (X0.out.below ba)
  replace BX0 := Lib.hid (BX0.out.below ba)
  replace X0_1 := Lib.hid (X0_1.out.below ba)
  replace X1 := Lib.hid (X1.out.below ba)
  replace G := Lib.hid (G.out.trans (ba.mono G.out.size))
  clear ba
  have BX1 := Lib.hid (CIs.newAt u13 [.slice A0_1 len0_1 len0_1, .float .f32 l1, .float .f32 s1, .slice A1 len1 len1, .int .i64 t1, .float .f32 b0_1, .float .f32 b1_1, .float .f32 b2_1, .float .f32 b3_1, .int .i64 y1] 35 (p := u13.heap.size) rfl)
  obtain ⟨kx0_0, kx0_1, kx0_2, kx0_3, kx0_4, kx0_5, kx0_6, kx0_7, kx0_8, kx0_9⟩ := BX0.out.c10
  obtain ⟨kx1_0, kx1_1, kx1_2, kx1_3, kx1_4, kx1_5, kx1_6, kx1_7, kx1_8, kx1_9⟩ := BX1.out.c10
  go_wp2_with fail
  refine (imSdk_any A0_0 len0_0 len0_0 z0_0 l0 s0 A0 len0 len0 z0 t0 b0_0 b1_0 b2_0 b3_0 y0 A0_1 len0_1 len0_1 z0_1 l1 s1 A1 len1 len1 z1 t1 b0_1 b1_1 b2_1 b3_1 y1 _ X0_0.out.sl X0.out.sl X0_1.out.sl X1.out.sl hm0_0 hm0 hm0_1 hm1).mono ?_
  rintro e u14 ⟨rfl, b⟩
  clear kx0_0 kx0_1 kx0_2 kx0_3 kx0_4 kx0_5 kx0_6 kx0_7 kx0_8 kx0_9
  clear kx1_0 kx1_1 kx1_2 kx1_3 kx1_4 kx1_5 kx1_6 kx1_7 kx1_8 kx1_9
  replace B0 := Lib.hid (B0.out.below b)
  replace B1 := Lib.hid (B1.out.below b)
  replace X0_0 := Lib.hid (X0_0.out.below b)
  replace X0 := Lib.hid (X0.out.below b)
  replace BX0 := Lib.hid (BX0.out.below b)
  replace X0_1 := Lib.hid (X0_1.out.below b)
  replace X1 := Lib.hid (X1.out.below b)
  replace BX1 := Lib.hid (BX1.out.below b)
  replace G := Lib.hid (G.out.trans (b.mono G.out.size))
  clear b
  obtain ⟨kBX0_0, kBX0_1, kBX0_2, kBX0_3, kBX0_4, kBX0_5, kBX0_6, kBX0_7, kBX0_8, kBX0_9⟩ := BX0.out.c10
  obtain ⟨kB0_0, kB0_1, kB0_2, kB0_3, kB0_4, kB0_5, kB0_6, kB0_7, kB0_8, kB0_9⟩ := B0.out.c10
  go_wp2_with fail
  go_region_held3 (fun w' => w'.cell? ⟨u12.heap.size, 0, none⟩ = some (.slice A0_0 len0_0 len0_0) ∧ w'.cell? ⟨u12.heap.size, 1, none⟩ = some (.float .f32 l0) ∧ w'.cell? ⟨u12.heap.size, 2, none⟩ = some (.float .f32 s0) ∧ w'.cell? ⟨u12.heap.size, 3, none⟩ = some (.slice A0 len0 len0) ∧ w'.cell? ⟨u12.heap.size, 4, none⟩ = some (.int .i64 t0) ∧ w'.cell? ⟨u12.heap.size, 5, none⟩ = some (.float .f32 b0_0) ∧ w'.cell? ⟨u12.heap.size, 6, none⟩ = some (.float .f32 b1_0) ∧ w'.cell? ⟨u12.heap.size, 7, none⟩ = some (.float .f32 b2_0) ∧ w'.cell? ⟨u12.heap.size, 8, none⟩ = some (.float .f32 b3_0) ∧ w'.cell? ⟨u12.heap.size, 9, none⟩ = some (.int .i64 y0) ∧ w'.cell? ⟨w.heap.size, 0, none⟩ = some (.slice a0_0 len0_0 cap0_0) ∧ w'.cell? ⟨w.heap.size, 1, none⟩ = some (.float .f32 l0) ∧ w'.cell? ⟨w.heap.size, 2, none⟩ = some (.float .f32 s0) ∧ w'.cell? ⟨w.heap.size, 3, none⟩ = some (.slice a0 len0 cap0) ∧ w'.cell? ⟨w.heap.size, 4, none⟩ = some (.int .i64 t0) ∧ w'.cell? ⟨w.heap.size, 5, none⟩ = some (.float .f32 b0_0) ∧ w'.cell? ⟨w.heap.size, 6, none⟩ = some (.float .f32 b1_0) ∧ w'.cell? ⟨w.heap.size, 7, none⟩ = some (.float .f32 b2_0) ∧ w'.cell? ⟨w.heap.size, 8, none⟩ = some (.float .f32 b3_0) ∧ w'.cell? ⟨w.heap.size, 9, none⟩ = some (.int .i64 y0)) (first | exact ⟨(((((BX0.out.drew)).below hb1)).below hb2).c10.1, (((((BX0.out.drew)).below hb1)).below hb2).c10.2.1, (((((BX0.out.drew)).below hb1)).below hb2).c10.2.2.1, (((((BX0.out.drew)).below hb1)).below hb2).c10.2.2.2.1, (((((BX0.out.drew)).below hb1)).below hb2).c10.2.2.2.2.1, (((((BX0.out.drew)).below hb1)).below hb2).c10.2.2.2.2.2.1, (((((BX0.out.drew)).below hb1)).below hb2).c10.2.2.2.2.2.2.1, (((((BX0.out.drew)).below hb1)).below hb2).c10.2.2.2.2.2.2.2.1, (((((BX0.out.drew)).below hb1)).below hb2).c10.2.2.2.2.2.2.2.2.1, (((((BX0.out.drew)).below hb1)).below hb2).c10.2.2.2.2.2.2.2.2.2, (((((B0.out.drew)).below hb1)).below hb2).c10.1, (((((B0.out.drew)).below hb1)).below hb2).c10.2.1, (((((B0.out.drew)).below hb1)).below hb2).c10.2.2.1, (((((B0.out.drew)).below hb1)).below hb2).c10.2.2.2.1, (((((B0.out.drew)).below hb1)).below hb2).c10.2.2.2.2.1, (((((B0.out.drew)).below hb1)).below hb2).c10.2.2.2.2.2.1, (((((B0.out.drew)).below hb1)).below hb2).c10.2.2.2.2.2.2.1, (((((B0.out.drew)).below hb1)).below hb2).c10.2.2.2.2.2.2.2.1, (((((B0.out.drew)).below hb1)).below hb2).c10.2.2.2.2.2.2.2.2.1, (((((B0.out.drew)).below hb1)).below hb2).c10.2.2.2.2.2.2.2.2.2⟩ | exact ⟨(((BX0.out.drew)).below hb1).c10.1, (((BX0.out.drew)).below hb1).c10.2.1, (((BX0.out.drew)).below hb1).c10.2.2.1, (((BX0.out.drew)).below hb1).c10.2.2.2.1, (((BX0.out.drew)).below hb1).c10.2.2.2.2.1, (((BX0.out.drew)).below hb1).c10.2.2.2.2.2.1, (((BX0.out.drew)).below hb1).c10.2.2.2.2.2.2.1, (((BX0.out.drew)).below hb1).c10.2.2.2.2.2.2.2.1, (((BX0.out.drew)).below hb1).c10.2.2.2.2.2.2.2.2.1, (((BX0.out.drew)).below hb1).c10.2.2.2.2.2.2.2.2.2, (((B0.out.drew)).below hb1).c10.1, (((B0.out.drew)).below hb1).c10.2.1, (((B0.out.drew)).below hb1).c10.2.2.1, (((B0.out.drew)).below hb1).c10.2.2.2.1, (((B0.out.drew)).below hb1).c10.2.2.2.2.1, (((B0.out.drew)).below hb1).c10.2.2.2.2.2.1, (((B0.out.drew)).below hb1).c10.2.2.2.2.2.2.1, (((B0.out.drew)).below hb1).c10.2.2.2.2.2.2.2.1, (((B0.out.drew)).below hb1).c10.2.2.2.2.2.2.2.2.1, (((B0.out.drew)).below hb1).c10.2.2.2.2.2.2.2.2.2⟩ | exact ⟨(BX0.out.drew).c10.1, (BX0.out.drew).c10.2.1, (BX0.out.drew).c10.2.2.1, (BX0.out.drew).c10.2.2.2.1, (BX0.out.drew).c10.2.2.2.2.1, (BX0.out.drew).c10.2.2.2.2.2.1, (BX0.out.drew).c10.2.2.2.2.2.2.1, (BX0.out.drew).c10.2.2.2.2.2.2.2.1, (BX0.out.drew).c10.2.2.2.2.2.2.2.2.1, (BX0.out.drew).c10.2.2.2.2.2.2.2.2.2, (B0.out.drew).c10.1, (B0.out.drew).c10.2.1, (B0.out.drew).c10.2.2.1, (B0.out.drew).c10.2.2.2.1, (B0.out.drew).c10.2.2.2.2.1, (B0.out.drew).c10.2.2.2.2.2.1, (B0.out.drew).c10.2.2.2.2.2.2.1, (B0.out.drew).c10.2.2.2.2.2.2.2.1, (B0.out.drew).c10.2.2.2.2.2.2.2.2.1, (B0.out.drew).c10.2.2.2.2.2.2.2.2.2⟩ | go_keep)
    ((first
      | (go_at_call 19; refine (eqDk_any A0_0 E0_0 len0_0 len0_0 len0_0 z0_0 l0 s0 A0 E0 len0 len0 len0 z0 t0 b0_0 b1_0 b2_0 b3_0 y0 _ ((((X0_0.out.dw)).below hb1).sl) hE0_0.sl ((((X0.out.dw)).below hb1).sl) hE0.sl hm0_0 hm0).mono ?_; rintro e u16 ⟨rfl, hb2⟩)
      | (go_at_call 17; refine (toDk_any a0_0 len0_0 cap0_0 z0_0 l0 s0 a0 len0 cap0 z0 t0 b0_0 b1_0 b2_0 b3_0 y0 _ (FSl.below H0_0.out (below_drewN G.out 1)) (FSl.below H0.out (below_drewN G.out 1)) hm0_0 hm0).mono ?_; rintro e u15 ⟨E0_0, E0, e0_0, e0, rfl, hE0_0, hE0, hb1⟩)
      ))
  clear kBX0_0 kBX0_1 kBX0_2 kBX0_3 kBX0_4 kBX0_5 kBX0_6 kBX0_7 kBX0_8 kBX0_9
  clear kB0_0 kB0_1 kB0_2 kB0_3 kB0_4 kB0_5 kB0_6 kB0_7 kB0_8 kB0_9
  replace B0 := Lib.hid (((((B0.out.drew)).below hb1)).below hb2)
  replace B1 := Lib.hid (((((B1.out.drew)).below hb1)).below hb2)
  replace X0_0 := Lib.hid (((((X0_0.out.dw)).below hb1)).below hb2)
  replace X0 := Lib.hid (((((X0.out.dw)).below hb1)).below hb2)
  replace BX0 := Lib.hid (((((BX0.out.drew)).below hb1)).below hb2)
  replace X0_1 := Lib.hid (((((X0_1.out.dw)).below hb1)).below hb2)
  replace X1 := Lib.hid (((((X1.out.dw)).below hb1)).below hb2)
  replace BX1 := Lib.hid (((((BX1.out.drew)).below hb1)).below hb2)
  replace G := Lib.hid (((below_drewN G.out 1).trans (hb1.mono (below_drewN G.out 1).size)).trans (hb2.mono ((below_drewN G.out 1).trans (hb1.mono (below_drewN G.out 1).size)).size))
  clear hb1 hb2
  clear hE0_0 hE0
  obtain ⟨kBX1_0, kBX1_1, kBX1_2, kBX1_3, kBX1_4, kBX1_5, kBX1_6, kBX1_7, kBX1_8, kBX1_9⟩ := BX1.out.c10
  obtain ⟨kB1_0, kB1_1, kB1_2, kB1_3, kB1_4, kB1_5, kB1_6, kB1_7, kB1_8, kB1_9⟩ := B1.out.c10
  go_wp2_with fail
  go_region_held3 (fun w' => w'.cell? ⟨u13.heap.size, 0, none⟩ = some (.slice A0_1 len0_1 len0_1) ∧ w'.cell? ⟨u13.heap.size, 1, none⟩ = some (.float .f32 l1) ∧ w'.cell? ⟨u13.heap.size, 2, none⟩ = some (.float .f32 s1) ∧ w'.cell? ⟨u13.heap.size, 3, none⟩ = some (.slice A1 len1 len1) ∧ w'.cell? ⟨u13.heap.size, 4, none⟩ = some (.int .i64 t1) ∧ w'.cell? ⟨u13.heap.size, 5, none⟩ = some (.float .f32 b0_1) ∧ w'.cell? ⟨u13.heap.size, 6, none⟩ = some (.float .f32 b1_1) ∧ w'.cell? ⟨u13.heap.size, 7, none⟩ = some (.float .f32 b2_1) ∧ w'.cell? ⟨u13.heap.size, 8, none⟩ = some (.float .f32 b3_1) ∧ w'.cell? ⟨u13.heap.size, 9, none⟩ = some (.int .i64 y1) ∧ w'.cell? ⟨w.heap.size + 1, 0, none⟩ = some (.slice a0_1 len0_1 cap0_1) ∧ w'.cell? ⟨w.heap.size + 1, 1, none⟩ = some (.float .f32 l1) ∧ w'.cell? ⟨w.heap.size + 1, 2, none⟩ = some (.float .f32 s1) ∧ w'.cell? ⟨w.heap.size + 1, 3, none⟩ = some (.slice a1 len1 cap1) ∧ w'.cell? ⟨w.heap.size + 1, 4, none⟩ = some (.int .i64 t1) ∧ w'.cell? ⟨w.heap.size + 1, 5, none⟩ = some (.float .f32 b0_1) ∧ w'.cell? ⟨w.heap.size + 1, 6, none⟩ = some (.float .f32 b1_1) ∧ w'.cell? ⟨w.heap.size + 1, 7, none⟩ = some (.float .f32 b2_1) ∧ w'.cell? ⟨w.heap.size + 1, 8, none⟩ = some (.float .f32 b3_1) ∧ w'.cell? ⟨w.heap.size + 1, 9, none⟩ = some (.int .i64 y1)) (first | exact ⟨(((((BX1.out.drew)).below hb1)).below hb2).c10.1, (((((BX1.out.drew)).below hb1)).below hb2).c10.2.1, (((((BX1.out.drew)).below hb1)).below hb2).c10.2.2.1, (((((BX1.out.drew)).below hb1)).below hb2).c10.2.2.2.1, (((((BX1.out.drew)).below hb1)).below hb2).c10.2.2.2.2.1, (((((BX1.out.drew)).below hb1)).below hb2).c10.2.2.2.2.2.1, (((((BX1.out.drew)).below hb1)).below hb2).c10.2.2.2.2.2.2.1, (((((BX1.out.drew)).below hb1)).below hb2).c10.2.2.2.2.2.2.2.1, (((((BX1.out.drew)).below hb1)).below hb2).c10.2.2.2.2.2.2.2.2.1, (((((BX1.out.drew)).below hb1)).below hb2).c10.2.2.2.2.2.2.2.2.2, (((((B1.out.drew)).below hb1)).below hb2).c10.1, (((((B1.out.drew)).below hb1)).below hb2).c10.2.1, (((((B1.out.drew)).below hb1)).below hb2).c10.2.2.1, (((((B1.out.drew)).below hb1)).below hb2).c10.2.2.2.1, (((((B1.out.drew)).below hb1)).below hb2).c10.2.2.2.2.1, (((((B1.out.drew)).below hb1)).below hb2).c10.2.2.2.2.2.1, (((((B1.out.drew)).below hb1)).below hb2).c10.2.2.2.2.2.2.1, (((((B1.out.drew)).below hb1)).below hb2).c10.2.2.2.2.2.2.2.1, (((((B1.out.drew)).below hb1)).below hb2).c10.2.2.2.2.2.2.2.2.1, (((((B1.out.drew)).below hb1)).below hb2).c10.2.2.2.2.2.2.2.2.2⟩ | exact ⟨(((BX1.out.drew)).below hb1).c10.1, (((BX1.out.drew)).below hb1).c10.2.1, (((BX1.out.drew)).below hb1).c10.2.2.1, (((BX1.out.drew)).below hb1).c10.2.2.2.1, (((BX1.out.drew)).below hb1).c10.2.2.2.2.1, (((BX1.out.drew)).below hb1).c10.2.2.2.2.2.1, (((BX1.out.drew)).below hb1).c10.2.2.2.2.2.2.1, (((BX1.out.drew)).below hb1).c10.2.2.2.2.2.2.2.1, (((BX1.out.drew)).below hb1).c10.2.2.2.2.2.2.2.2.1, (((BX1.out.drew)).below hb1).c10.2.2.2.2.2.2.2.2.2, (((B1.out.drew)).below hb1).c10.1, (((B1.out.drew)).below hb1).c10.2.1, (((B1.out.drew)).below hb1).c10.2.2.1, (((B1.out.drew)).below hb1).c10.2.2.2.1, (((B1.out.drew)).below hb1).c10.2.2.2.2.1, (((B1.out.drew)).below hb1).c10.2.2.2.2.2.1, (((B1.out.drew)).below hb1).c10.2.2.2.2.2.2.1, (((B1.out.drew)).below hb1).c10.2.2.2.2.2.2.2.1, (((B1.out.drew)).below hb1).c10.2.2.2.2.2.2.2.2.1, (((B1.out.drew)).below hb1).c10.2.2.2.2.2.2.2.2.2⟩ | exact ⟨(BX1.out.drew).c10.1, (BX1.out.drew).c10.2.1, (BX1.out.drew).c10.2.2.1, (BX1.out.drew).c10.2.2.2.1, (BX1.out.drew).c10.2.2.2.2.1, (BX1.out.drew).c10.2.2.2.2.2.1, (BX1.out.drew).c10.2.2.2.2.2.2.1, (BX1.out.drew).c10.2.2.2.2.2.2.2.1, (BX1.out.drew).c10.2.2.2.2.2.2.2.2.1, (BX1.out.drew).c10.2.2.2.2.2.2.2.2.2, (B1.out.drew).c10.1, (B1.out.drew).c10.2.1, (B1.out.drew).c10.2.2.1, (B1.out.drew).c10.2.2.2.1, (B1.out.drew).c10.2.2.2.2.1, (B1.out.drew).c10.2.2.2.2.2.1, (B1.out.drew).c10.2.2.2.2.2.2.1, (B1.out.drew).c10.2.2.2.2.2.2.2.1, (B1.out.drew).c10.2.2.2.2.2.2.2.2.1, (B1.out.drew).c10.2.2.2.2.2.2.2.2.2⟩ | go_keep)
    ((first
      | (go_at_call 19; refine (eqDk_any A0_1 E0_1 len0_1 len0_1 len0_1 z0_1 l1 s1 A1 E1 len1 len1 len1 z1 t1 b0_1 b1_1 b2_1 b3_1 y1 _ ((((X0_1.out.dw)).below hb1).sl) hE0_1.sl ((((X1.out.dw)).below hb1).sl) hE1.sl hm0_1 hm1).mono ?_; rintro e u18 ⟨rfl, hb2⟩)
      | (go_at_call 17; refine (toDk_any a0_1 len0_1 cap0_1 z0_1 l1 s1 a1 len1 cap1 z1 t1 b0_1 b1_1 b2_1 b3_1 y1 _ (FSl.below H0_1.out (below_drewN G.out 1)) (FSl.below H1.out (below_drewN G.out 1)) hm0_1 hm1).mono ?_; rintro e u17 ⟨E0_1, E1, e0_1, e1, rfl, hE0_1, hE1, hb1⟩)
      ))
  clear kBX1_0 kBX1_1 kBX1_2 kBX1_3 kBX1_4 kBX1_5 kBX1_6 kBX1_7 kBX1_8 kBX1_9
  clear kB1_0 kB1_1 kB1_2 kB1_3 kB1_4 kB1_5 kB1_6 kB1_7 kB1_8 kB1_9
  replace B0 := Lib.hid (((((B0.out.drew)).below hb1)).below hb2)
  replace B1 := Lib.hid (((((B1.out.drew)).below hb1)).below hb2)
  replace X0_0 := Lib.hid (((((X0_0.out.dw)).below hb1)).below hb2)
  replace X0 := Lib.hid (((((X0.out.dw)).below hb1)).below hb2)
  replace BX0 := Lib.hid (((((BX0.out.drew)).below hb1)).below hb2)
  replace X0_1 := Lib.hid (((((X0_1.out.dw)).below hb1)).below hb2)
  replace X1 := Lib.hid (((((X1.out.dw)).below hb1)).below hb2)
  replace BX1 := Lib.hid (((((BX1.out.drew)).below hb1)).below hb2)
  replace G := Lib.hid (((below_drewN G.out 1).trans (hb1.mono (below_drewN G.out 1).size)).trans (hb2.mono ((below_drewN G.out 1).trans (hb1.mono (below_drewN G.out 1).size)).size))
  clear hb1 hb2
  clear hE0_1 hE1
  go_wp2
  go_ret
  exact ⟨rfl, G.out⟩
end Go.Proofs.Ytdjlakjjgkhlmaa.fnExactSameDesk
