import Derived.Test.YtallegmkkbmelabGue
import Derived.Test.YtallegmkkbmelabShl
import Derived.Test.YtallegmkkbmelabStl
import Derived.Deep.RegionHeld3
namespace Go.Proofs.Ytallegmkkbmelab.fnExactGuessOf
open Go.RowKit Ieee
set_option linter.unusedVariables false
set_option maxHeartbeats 2000000 in
set_option maxRecDepth 100000 in
theorem walk (l0 s0 : Nat) (a0 : Option Addr) (len0 cap0 : Nat) (z0 : List Nat) (t0 : Int) (a1 b1 c1 e1 : Nat) (w : World) (w0 : FRow w a0 len0 cap0 z0) (x0 : (Lit.int .i64 t0).wf = true) :
    Calls Try.prog 4 #[.agg #[.float .f32 l0, .float .f32 s0, .slice a0 len0 cap0, .int .i64 t0], .agg #[.float .f32 a1, .float .f32 b1, .float .f32 c1, .float .f32 e1]] w fun e w' => e = .returned (.bool true) ∧ Below w.heap.size w w' := by
  obtain ⟨hs0, hlc0, hcm0, _⟩ := w0
  have H0 := Lib.hid hs0
  clear hs0
  have G := Lib.hid (Below.refl w.heap.size w)
  have B0 := Lib.hid (StIn.new w l0 s0 a0 len0 cap0 t0 30)
  replace G := Lib.hid (G.out.alloc (Nat.le_refl _) (.cells #[.float .f32 l0, .float .f32 s0, .slice a0 len0 cap0, .int .i64 t0] 30))
  have B1 := Lib.hid (show ShIn ((w.alloc (.cells #[.float .f32 l0, .float .f32 s0, .slice a0 len0 cap0, .int .i64 t0] 30)).alloc (.cells #[.float .f32 a1, .float .f32 b1, .float .f32 c1, .float .f32 e1] 32)) (w.heap.size + 1) a1 b1 c1 e1 from by simpa using ShIn.new (w.alloc (.cells #[.float .f32 l0, .float .f32 s0, .slice a0 len0 cap0, .int .i64 t0] 30)) a1 b1 c1 e1 32)
  replace B0 := Lib.hid (B0.out.alloc (.cells #[.float .f32 a1, .float .f32 b1, .float .f32 c1, .float .f32 e1] 32))
  replace G := Lib.hid (G.out.alloc (by simp; try omega) (.cells #[.float .f32 a1, .float .f32 b1, .float .f32 c1, .float .f32 e1] 32))
  by_cases hn0 : len0 ≤ 1048576
  rotate_left
  · skip
    go_enter Try.func4, Try.ntmps4
    obtain ⟨k0, k1, k2, k3⟩ := B0.out
    go_wp2_with fail
    refine (szSt_no _ _ _ _ _ _ 1048576 _ (by omega) (by omega) (by unfold maxLen at *; omega)).mono ?_
    rintro e u1 ⟨rfl, b⟩
    clear k0 k1 k2 k3
    replace B0 := Lib.hid (B0.out.below b)
    replace B1 := Lib.hid (B1.out.below b)
    replace G := Lib.hid (G.out.trans (b.mono G.out.size))
    clear b
    go_wp2
    go_ret
    exact ⟨rfl, G.out⟩
  have hm0 : len0 ≤ 1048576 := by omega
  go_enter Try.func4, Try.ntmps4
  obtain ⟨k0, k1, k2, k3⟩ := B0.out
  go_wp2_with fail
  refine (szSt_any _ _ _ _ _ _ 1048576 _ (by omega) (by omega)).mono ?_
  rintro e u2 ⟨rfl, b⟩
  clear k0 k1 k2 k3
  replace B0 := Lib.hid (B0.out.below b)
  replace B1 := Lib.hid (B1.out.below b)
  replace G := Lib.hid (G.out.trans (b.mono G.out.size))
  clear b
  go_wp2_with fail
  obtain ⟨kB0_0, kB0_1, kB0_2, kB0_3⟩ := B0.out
  obtain ⟨kB1_0, kB1_1, kB1_2, kB1_3⟩ := B1.out
  go_region_held3 (fun w' => w'.cell? ⟨w.heap.size, 0, none⟩ = some (.float .f32 l0) ∧ w'.cell? ⟨w.heap.size, 1, none⟩ = some (.float .f32 s0) ∧ w'.cell? ⟨w.heap.size, 2, none⟩ = some (.slice a0 len0 cap0) ∧ w'.cell? ⟨w.heap.size, 3, none⟩ = some (.int .i64 t0) ∧ w'.cell? ⟨w.heap.size + 1, 0, none⟩ = some (.float .f32 a1) ∧ w'.cell? ⟨w.heap.size + 1, 1, none⟩ = some (.float .f32 b1) ∧ w'.cell? ⟨w.heap.size + 1, 2, none⟩ = some (.float .f32 c1) ∧ w'.cell? ⟨w.heap.size + 1, 3, none⟩ = some (.float .f32 e1)) (first | go_keep | exact ⟨((B0.out.drew).below hb1).1, ((B0.out.drew).below hb1).2.1, ((B0.out.drew).below hb1).2.2.1, ((B0.out.drew).below hb1).2.2.2, ((B1.out.drew).below hb1).1, ((B1.out.drew).below hb1).2.1, ((B1.out.drew).below hb1).2.2.1, ((B1.out.drew).below hb1).2.2.2⟩ | exact ⟨(((B0.out.drew).below hb1).below hb2).1, (((B0.out.drew).below hb1).below hb2).2.1, (((B0.out.drew).below hb1).below hb2).2.2.1, (((B0.out.drew).below hb1).below hb2).2.2.2, (((B1.out.drew).below hb1).below hb2).1, (((B1.out.drew).below hb1).below hb2).2.1, (((B1.out.drew).below hb1).below hb2).2.2.1, (((B1.out.drew).below hb1).below hb2).2.2.2⟩ | exact ⟨((((B0.out.drew).below hb1).below hb2).below hb3).1, ((((B0.out.drew).below hb1).below hb2).below hb3).2.1, ((((B0.out.drew).below hb1).below hb2).below hb3).2.2.1, ((((B0.out.drew).below hb1).below hb2).below hb3).2.2.2, ((((B1.out.drew).below hb1).below hb2).below hb3).1, ((((B1.out.drew).below hb1).below hb2).below hb3).2.1, ((((B1.out.drew).below hb1).below hb2).below hb3).2.2.1, ((((B1.out.drew).below hb1).below hb2).below hb3).2.2.2⟩)
    ((first
      | (go_at_call 18; refine (toSt_any _ _ _ _ _ _ _ _ (FSl.below H0.out G.out.drew) hm0).mono ?_; rintro e u3 ⟨rfl, ht0, hb1, hq⟩)
      | (go_at_call 19; refine (toSh_any _ _ _ _ _).mono ?_; rintro e u4 ⟨rfl, hb2⟩)
      | (go_at_call 17; refine (spGuess_any _ _ _ _ _ _ _ _ _ _ _ _ (ht0.below hb2).sl hm0).mono ?_; rintro e u5 ⟨r1, hr, rfl, hb3⟩)
      ))
  clear kB0_0 kB0_1 kB0_2 kB0_3
  clear kB1_0 kB1_1 kB1_2 kB1_3
  replace B0 := Lib.hid ((((B0.out.drew).below hb1).below hb2).below hb3)
  replace B1 := Lib.hid ((((B1.out.drew).below hb1).below hb2).below hb3)
  replace G := Lib.hid (((G.out.drew.trans (hb1.mono G.out.drew.size)).trans (hb2.mono (G.out.drew.trans (hb1.mono G.out.drew.size)).size)).trans (hb3.mono ((G.out.drew.trans (hb1.mono G.out.drew.size)).trans (hb2.mono (G.out.drew.trans (hb1.mono G.out.drew.size)).size)).size))
  clear hb1 hb2 hb3
  have R1 := Lib.hid hr
  clear hr
  obtain ⟨k0, k1, k2, k3⟩ := B0.out
  go_wp2_with fail
  refine (toSt_any _ _ _ _ _ _ _ _ (FSl.below H0.out G.out) hm0).mono ?_
  rintro e u6 ⟨rfl, t, b, q⟩
  clear k0 k1 k2 k3
  replace B0 := Lib.hid (B0.out.below b)
  replace B1 := Lib.hid (B1.out.below b)
  replace G := Lib.hid (G.out.trans (b.mono G.out.size))
  clear b
  have X0 := Lib.hid t
  clear t q
  have ba := (Below.refl u6.heap.size u6).alloc (Nat.le_refl _) (.cells #[.float .f32 l0, .float .f32 s0, .slice (some ⟨u5.heap.size + 1 + 1 + 1, 0, none⟩) len0 len0, .int .i64 t0] 36)
  replace B0 := Lib.hid (B0.out.below ba)
  replace B1 := Lib.hid (B1.out.below ba)
  replace X0 := Lib.hid (X0.out.below ba)
  replace G := Lib.hid (G.out.trans (ba.mono G.out.size))
  clear ba
  have BX0 := Lib.hid (StIn.new u6 l0 s0 (some ⟨u5.heap.size + 1 + 1 + 1, 0, none⟩) len0 len0 t0 36)
  go_wp2_with fail
  obtain ⟨kBX0_0, kBX0_1, kBX0_2, kBX0_3⟩ := BX0.out
  obtain ⟨kB1_0, kB1_1, kB1_2, kB1_3⟩ := B1.out
  go_region_held3 (fun w' => w'.cell? ⟨u6.heap.size, 0, none⟩ = some (.float .f32 l0) ∧ w'.cell? ⟨u6.heap.size, 1, none⟩ = some (.float .f32 s0) ∧ w'.cell? ⟨u6.heap.size, 2, none⟩ = some (.slice (some ⟨u5.heap.size + 1 + 1 + 1, 0, none⟩) len0 len0) ∧ w'.cell? ⟨u6.heap.size, 3, none⟩ = some (.int .i64 t0) ∧ w'.cell? ⟨w.heap.size + 1, 0, none⟩ = some (.float .f32 a1) ∧ w'.cell? ⟨w.heap.size + 1, 1, none⟩ = some (.float .f32 b1) ∧ w'.cell? ⟨w.heap.size + 1, 2, none⟩ = some (.float .f32 c1) ∧ w'.cell? ⟨w.heap.size + 1, 3, none⟩ = some (.float .f32 e1)) (first | go_keep | exact ⟨((BX0.out.drew).below hb1).1, ((BX0.out.drew).below hb1).2.1, ((BX0.out.drew).below hb1).2.2.1, ((BX0.out.drew).below hb1).2.2.2, ((B1.out.drew).below hb1).1, ((B1.out.drew).below hb1).2.1, ((B1.out.drew).below hb1).2.2.1, ((B1.out.drew).below hb1).2.2.2⟩ | exact ⟨(((BX0.out.drew).below hb1).below hb2).1, (((BX0.out.drew).below hb1).below hb2).2.1, (((BX0.out.drew).below hb1).below hb2).2.2.1, (((BX0.out.drew).below hb1).below hb2).2.2.2, (((B1.out.drew).below hb1).below hb2).1, (((B1.out.drew).below hb1).below hb2).2.1, (((B1.out.drew).below hb1).below hb2).2.2.1, (((B1.out.drew).below hb1).below hb2).2.2.2⟩)
    ((first
      | (go_at_call 19; refine (toSh_any _ _ _ _ _).mono ?_; rintro e u7 ⟨rfl, hb1⟩)
      | (go_at_call 20; refine (imGuess_any _ _ _ _ _ _ _ _ _ _ _ _ ((X0.out.drew).below hb1).sl hm0).mono ?_; rintro e u8 ⟨r2, hr, rfl, hb2⟩)
      ))
  clear kBX0_0 kBX0_1 kBX0_2 kBX0_3
  clear kB1_0 kB1_1 kB1_2 kB1_3
  replace B0 := Lib.hid (((B0.out.drew).below hb1).below hb2)
  replace B1 := Lib.hid (((B1.out.drew).below hb1).below hb2)
  replace X0 := Lib.hid (((X0.out.drew).below hb1).below hb2)
  replace BX0 := Lib.hid (((BX0.out.drew).below hb1).below hb2)
  replace G := Lib.hid ((G.out.drew.trans (hb1.mono G.out.drew.size)).trans (hb2.mono (G.out.drew.trans (hb1.mono G.out.drew.size)).size))
  clear hb1 hb2
  have R2 := Lib.hid hr
  clear hr
  go_wp2_with fail
  refine (sameFloat_true _ _ _ (by rw [cn_wideR, cn_wideR, R1.out, R2.out])).mono ?_
  rintro e w' ⟨n0, rfl, rfl⟩
  go_wp2_with fail
  obtain ⟨kBX0_0, kBX0_1, kBX0_2, kBX0_3⟩ := BX0.out
  obtain ⟨kB0_0, kB0_1, kB0_2, kB0_3⟩ := B0.out
  go_region_held3 (fun w' => w'.cell? ⟨u6.heap.size, 0, none⟩ = some (.float .f32 l0) ∧ w'.cell? ⟨u6.heap.size, 1, none⟩ = some (.float .f32 s0) ∧ w'.cell? ⟨u6.heap.size, 2, none⟩ = some (.slice (some ⟨u5.heap.size + 1 + 1 + 1, 0, none⟩) len0 len0) ∧ w'.cell? ⟨u6.heap.size, 3, none⟩ = some (.int .i64 t0) ∧ w'.cell? ⟨w.heap.size, 0, none⟩ = some (.float .f32 l0) ∧ w'.cell? ⟨w.heap.size, 1, none⟩ = some (.float .f32 s0) ∧ w'.cell? ⟨w.heap.size, 2, none⟩ = some (.slice a0 len0 cap0) ∧ w'.cell? ⟨w.heap.size, 3, none⟩ = some (.int .i64 t0)) (first | go_keep | exact ⟨(((BX0.out.drewN _).drew).below hb1).1, (((BX0.out.drewN _).drew).below hb1).2.1, (((BX0.out.drewN _).drew).below hb1).2.2.1, (((BX0.out.drewN _).drew).below hb1).2.2.2, (((B0.out.drewN _).drew).below hb1).1, (((B0.out.drewN _).drew).below hb1).2.1, (((B0.out.drewN _).drew).below hb1).2.2.1, (((B0.out.drewN _).drew).below hb1).2.2.2⟩ | exact ⟨((((BX0.out.drewN _).drew).below hb1).below hb2).1, ((((BX0.out.drewN _).drew).below hb1).below hb2).2.1, ((((BX0.out.drewN _).drew).below hb1).below hb2).2.2.1, ((((BX0.out.drewN _).drew).below hb1).below hb2).2.2.2, ((((B0.out.drewN _).drew).below hb1).below hb2).1, ((((B0.out.drewN _).drew).below hb1).below hb2).2.1, ((((B0.out.drewN _).drew).below hb1).below hb2).2.2.1, ((((B0.out.drewN _).drew).below hb1).below hb2).2.2.2⟩)
    ((first
      | (go_at_call 18; refine (toSt_any _ _ _ _ _ _ _ _ (FSl.below H0.out (below_drewN G.out _).drew) hm0).mono ?_; rintro e u9 ⟨rfl, ht0, hb1, hq⟩)
      | (go_at_call 22; refine (eqSt_any _ _ _ _ _ _ _ _ _ _ _ _ _ rfl rfl (((X0.out.drewN _).drew).below hb1).sl ht0.sl hm0 (fun _ _ => rfl)).mono ?_; rintro e u10 ⟨rfl, hb2⟩)
      ))
  clear kBX0_0 kBX0_1 kBX0_2 kBX0_3
  clear kB0_0 kB0_1 kB0_2 kB0_3
  replace B0 := Lib.hid ((((B0.out.drewN _).drew).below hb1).below hb2)
  replace B1 := Lib.hid ((((B1.out.drewN _).drew).below hb1).below hb2)
  replace X0 := Lib.hid ((((X0.out.drewN _).drew).below hb1).below hb2)
  replace BX0 := Lib.hid ((((BX0.out.drewN _).drew).below hb1).below hb2)
  replace G := Lib.hid (((below_drewN G.out _).drew.trans (hb1.mono (below_drewN G.out _).drew.size)).trans (hb2.mono ((below_drewN G.out _).drew.trans (hb1.mono (below_drewN G.out _).drew.size)).size))
  clear hb1 hb2
  go_wp2
  go_ret
  exact ⟨rfl, G.out⟩
end Go.Proofs.Ytallegmkkbmelab.fnExactGuessOf
