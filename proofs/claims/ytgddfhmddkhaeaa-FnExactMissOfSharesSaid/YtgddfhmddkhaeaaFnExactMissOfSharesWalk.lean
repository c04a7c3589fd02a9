import Derived.Test.YtgddfhmddkhaeaaSqm
import Derived.Test.YtgddfhmddkhaeaaShl
import Derived.Test.YtgddfhmddkhaeaaStl
import Derived.Deep.RegionHeld3
namespace Go.Proofs.Ytgddfhmddkhaeaa.fnExactMissOfShares
open Go.RowKit Ieee
set_option linter.unusedVariables false
set_option maxHeartbeats 2000000 in
set_option maxRecDepth 100000 in
theorem walk (a0 : Option Addr) (len0 cap0 : Nat) (z0 : List Nat) (l1 s1 : Nat) (a1 : Option Addr) (len1 cap1 : Nat) (z1 : List Nat) (t1 : Int) (a2 b2 c2 e2 : Nat) (w : World) (w0 : FRow w a0 len0 cap0 z0) (w1 : FRow w a1 len1 cap1 z1) (x1 : (Lit.int .i64 t1).wf = true) :
    Calls Try.prog 7 #[.slice a0 len0 cap0, .agg #[.float .f32 l1, .float .f32 s1, .slice a1 len1 cap1, .int .i64 t1], .agg #[.float .f32 a2, .float .f32 b2, .float .f32 c2, .float .f32 e2]] w fun e w' => e = .returned (.bool true) ∧ Below w.heap.size w w' := by
  obtain ⟨hs0, hlc0, hcm0, _⟩ := w0
  have H0 := Lib.hid hs0
  clear hs0
  obtain ⟨hs1, hlc1, hcm1, _⟩ := w1
  have H1 := Lib.hid hs1
  clear hs1
  have G := Lib.hid (Below.refl w.heap.size w)
  have B1 := Lib.hid (StIn.new w l1 s1 a1 len1 cap1 t1 25)
  replace G := Lib.hid (G.out.alloc (Nat.le_refl _) (.cells #[.float .f32 l1, .float .f32 s1, .slice a1 len1 cap1, .int .i64 t1] 25))
  have B2 := Lib.hid (show ShIn ((w.alloc (.cells #[.float .f32 l1, .float .f32 s1, .slice a1 len1 cap1, .int .i64 t1] 25)).alloc (.cells #[.float .f32 a2, .float .f32 b2, .float .f32 c2, .float .f32 e2] 27)) (w.heap.size + 1) a2 b2 c2 e2 from by simpa using ShIn.new (w.alloc (.cells #[.float .f32 l1, .float .f32 s1, .slice a1 len1 cap1, .int .i64 t1] 25)) a2 b2 c2 e2 27)
  replace B1 := Lib.hid (B1.out.alloc (.cells #[.float .f32 a2, .float .f32 b2, .float .f32 c2, .float .f32 e2] 27))
  replace G := Lib.hid (G.out.alloc (by simp; try omega) (.cells #[.float .f32 a2, .float .f32 b2, .float .f32 c2, .float .f32 e2] 27))
  by_cases hn0 : len0 ≤ 1048576
  rotate_left
  · skip
    go_enter Try.func7, Try.ntmps7
    go_wp2_with fail
    all_goals (go_ret; exact ⟨rfl, G.out⟩)
  by_cases hn1 : len1 ≤ 1048576
  rotate_left
  · skip
    go_enter Try.func7, Try.ntmps7
    obtain ⟨k0, k1, k2, k3⟩ := B1.out
    go_wp2_with fail
    refine (szSt_no _ _ _ _ _ _ 1048576 _ (by omega) (by omega) (by unfold maxLen at *; omega)).mono ?_
    rintro e u1 ⟨rfl, b⟩
    clear k0 k1 k2 k3
    replace B1 := Lib.hid (B1.out.below b)
    replace B2 := Lib.hid (B2.out.below b)
    replace G := Lib.hid (G.out.trans (b.mono G.out.size))
    clear b
    go_wp2
    go_ret
    exact ⟨rfl, G.out⟩
  have hm0 : len0 ≤ 1048576 := by omega
  have hm1 : len1 ≤ 1048576 := by omega
  go_enter Try.func7, Try.ntmps7
  obtain ⟨k0, k1, k2, k3⟩ := B1.out
  go_wp2_with fail
  refine (szSt_any _ _ _ _ _ _ 1048576 _ (by omega) (by omega)).mono ?_
  rintro e u2 ⟨rfl, b⟩
  clear k0 k1 k2 k3
  replace B1 := Lib.hid (B1.out.below b)
  replace B2 := Lib.hid (B2.out.below b)
  replace G := Lib.hid (G.out.trans (b.mono G.out.size))
  clear b
  go_wp2_with fail
  go_region_held3 (fun w' => w'.cell? ⟨w.heap.size, 0, none⟩ = some (.float .f32 l1) ∧ w'.cell? ⟨w.heap.size, 1, none⟩ = some (.float .f32 s1) ∧ w'.cell? ⟨w.heap.size, 2, none⟩ = some (.slice a1 len1 cap1) ∧ w'.cell? ⟨w.heap.size, 3, none⟩ = some (.int .i64 t1) ∧ w'.cell? ⟨w.heap.size + 1, 0, none⟩ = some (.float .f32 a2) ∧ w'.cell? ⟨w.heap.size + 1, 1, none⟩ = some (.float .f32 b2) ∧ w'.cell? ⟨w.heap.size + 1, 2, none⟩ = some (.float .f32 c2) ∧ w'.cell? ⟨w.heap.size + 1, 3, none⟩ = some (.float .f32 e2)) (first | exact ⟨(((((B1.out.drew).below hb1).below hb2).below hb3).below hb4).1, (((((B1.out.drew).below hb1).below hb2).below hb3).below hb4).2.1, (((((B1.out.drew).below hb1).below hb2).below hb3).below hb4).2.2.1, (((((B1.out.drew).below hb1).below hb2).below hb3).below hb4).2.2.2, (((((B2.out.drew).below hb1).below hb2).below hb3).below hb4).1, (((((B2.out.drew).below hb1).below hb2).below hb3).below hb4).2.1, (((((B2.out.drew).below hb1).below hb2).below hb3).below hb4).2.2.1, (((((B2.out.drew).below hb1).below hb2).below hb3).below hb4).2.2.2⟩ | exact ⟨((((B1.out.drew).below hb1).below hb2).below hb3).1, ((((B1.out.drew).below hb1).below hb2).below hb3).2.1, ((((B1.out.drew).below hb1).below hb2).below hb3).2.2.1, ((((B1.out.drew).below hb1).below hb2).below hb3).2.2.2, ((((B2.out.drew).below hb1).below hb2).below hb3).1, ((((B2.out.drew).below hb1).below hb2).below hb3).2.1, ((((B2.out.drew).below hb1).below hb2).below hb3).2.2.1, ((((B2.out.drew).below hb1).below hb2).below hb3).2.2.2⟩ | exact ⟨(((B1.out.drew).below hb1).below hb2).1, (((B1.out.drew).below hb1).below hb2).2.1, (((B1.out.drew).below hb1).below hb2).2.2.1, (((B1.out.drew).below hb1).below hb2).2.2.2, (((B2.out.drew).below hb1).below hb2).1, (((B2.out.drew).below hb1).below hb2).2.1, (((B2.out.drew).below hb1).below hb2).2.2.1, (((B2.out.drew).below hb1).below hb2).2.2.2⟩ | exact ⟨((B1.out.drew).below hb1).1, ((B1.out.drew).below hb1).2.1, ((B1.out.drew).below hb1).2.2.1, ((B1.out.drew).below hb1).2.2.2, ((B2.out.drew).below hb1).1, ((B2.out.drew).below hb1).2.1, ((B2.out.drew).below hb1).2.2.1, ((B2.out.drew).below hb1).2.2.2⟩ | exact ⟨(B1.out.drew).1, (B1.out.drew).2.1, (B1.out.drew).2.2.1, (B1.out.drew).2.2.2, (B2.out.drew).1, (B2.out.drew).2.1, (B2.out.drew).2.2.1, (B2.out.drew).2.2.2⟩ | go_keep)
    ((first
      | (go_at_call 34; refine (spMissOf_any _ _ _ _ _ _ _ _ _ _ _ _ _ _ _ _ ((ht0.below hb2).below hb3).sl (ht1.below hb3).sl hm0 hm1).mono ?_; rintro e u6 ⟨r1, hr, rfl, hb4⟩)
      | (go_at_call 18; refine (toSh_any _ _ _ _ _).mono ?_; rintro e u5 ⟨rfl, hb3⟩)
      | (go_at_call 17; refine (toSt_any _ _ _ _ _ _ _ _ (FSl.below H1.out (G.out.drew.trans (hb1.mono G.out.drew.size))) hm1).mono ?_; rintro e u4 ⟨rfl, ht1, hb2, hq⟩)
      | (go_at_call 25; refine (toFt_any _ _ _ _ _ (FSl.below H0.out G.out.drew) hm0).mono ?_; rintro e u3 ⟨rfl, ht0, hb1, hq⟩)
      ))
  replace B1 := Lib.hid (((((B1.out.drew).below hb1).below hb2).below hb3).below hb4)
  replace B2 := Lib.hid (((((B2.out.drew).below hb1).below hb2).below hb3).below hb4)
  replace G := Lib.hid ((((G.out.drew.trans (hb1.mono G.out.drew.size)).trans (hb2.mono (G.out.drew.trans (hb1.mono G.out.drew.size)).size)).trans (hb3.mono ((G.out.drew.trans (hb1.mono G.out.drew.size)).trans (hb2.mono (G.out.drew.trans (hb1.mono G.out.drew.size)).size)).size)).trans (hb4.mono (((G.out.drew.trans (hb1.mono G.out.drew.size)).trans (hb2.mono (G.out.drew.trans (hb1.mono G.out.drew.size)).size)).trans (hb3.mono ((G.out.drew.trans (hb1.mono G.out.drew.size)).trans (hb2.mono (G.out.drew.trans (hb1.mono G.out.drew.size)).size)).size)).size))
  clear hb1 hb2 hb3 hb4
  have R1 := Lib.hid hr
  clear hr
  go_wp2_with fail
  refine (toFt_any _ _ _ _ _ (FSl.below H0.out G.out) hm0).mono ?_
  rintro e u7 ⟨rfl, t, b, q⟩
  replace B1 := Lib.hid (B1.out.below b)
  replace B2 := Lib.hid (B2.out.below b)
  replace G := Lib.hid (G.out.trans (b.mono G.out.size))
  clear b
  have X0 := Lib.hid t
  skip
  clear t q
  obtain ⟨k0, k1, k2, k3⟩ := B1.out
  go_wp2_with fail
  refine (toSt_any _ _ _ _ _ _ _ _ (FSl.below H1.out G.out) hm1).mono ?_
  rintro e u8 ⟨rfl, t, b, q⟩
  clear k0 k1 k2 k3
  replace B1 := Lib.hid (B1.out.below b)
  replace B2 := Lib.hid (B2.out.below b)
  replace X0 := Lib.hid (X0.out.below b)
  replace G := Lib.hid (G.out.trans (b.mono G.out.size))
  clear b
  have X1 := Lib.hid t
  skip
  clear t q
  have ba := (Below.refl u8.heap.size u8).alloc (Nat.le_refl _) (.cells #[.float .f32 l1, .float .f32 s1, .slice (some ⟨u7.heap.size + 1 + 1 + 1, 0, none⟩) len1 len1, .int .i64 t1] 29)
  replace B1 := Lib.hid (B1.out.below ba)
  replace B2 := Lib.hid (B2.out.below ba)
  replace X0 := Lib.hid (X0.out.below ba)
  replace X1 := Lib.hid (X1.out.below ba)
  replace G := Lib.hid (G.out.trans (ba.mono G.out.size))
  clear ba
  have BX1 := Lib.hid (StIn.new u8 l1 s1 (some ⟨u7.heap.size + 1 + 1 + 1, 0, none⟩) len1 len1 t1 29)
  go_wp2_with fail
  go_region_held3 (fun w' => w'.cell? ⟨u8.heap.size, 0, none⟩ = some (.float .f32 l1) ∧ w'.cell? ⟨u8.heap.size, 1, none⟩ = some (.float .f32 s1) ∧ w'.cell? ⟨u8.heap.size, 2, none⟩ = some (.slice (some ⟨u7.heap.size + 1 + 1 + 1, 0, none⟩) len1 len1) ∧ w'.cell? ⟨u8.heap.size, 3, none⟩ = some (.int .i64 t1) ∧ w'.cell? ⟨w.heap.size + 1, 0, none⟩ = some (.float .f32 a2) ∧ w'.cell? ⟨w.heap.size + 1, 1, none⟩ = some (.float .f32 b2) ∧ w'.cell? ⟨w.heap.size + 1, 2, none⟩ = some (.float .f32 c2) ∧ w'.cell? ⟨w.heap.size + 1, 3, none⟩ = some (.float .f32 e2)) (first | exact ⟨(((BX1.out.drew).below hb1).below hb2).1, (((BX1.out.drew).below hb1).below hb2).2.1, (((BX1.out.drew).below hb1).below hb2).2.2.1, (((BX1.out.drew).below hb1).below hb2).2.2.2, (((B2.out.drew).below hb1).below hb2).1, (((B2.out.drew).below hb1).below hb2).2.1, (((B2.out.drew).below hb1).below hb2).2.2.1, (((B2.out.drew).below hb1).below hb2).2.2.2⟩ | exact ⟨((BX1.out.drew).below hb1).1, ((BX1.out.drew).below hb1).2.1, ((BX1.out.drew).below hb1).2.2.1, ((BX1.out.drew).below hb1).2.2.2, ((B2.out.drew).below hb1).1, ((B2.out.drew).below hb1).2.1, ((B2.out.drew).below hb1).2.2.1, ((B2.out.drew).below hb1).2.2.2⟩ | exact ⟨(BX1.out.drew).1, (BX1.out.drew).2.1, (BX1.out.drew).2.2.1, (BX1.out.drew).2.2.2, (B2.out.drew).1, (B2.out.drew).2.1, (B2.out.drew).2.2.1, (B2.out.drew).2.2.2⟩ | go_keep)
    ((first
      | (go_at_call 35; refine (imMissOf_any _ _ _ _ _ _ _ _ _ _ _ _ _ _ _ _ ((X0.out.drew).below hb1).sl ((X1.out.drew).below hb1).sl hm0 hm1).mono ?_; rintro e u10 ⟨r2, hr, rfl, hb2⟩)
      | (go_at_call 18; refine (toSh_any _ _ _ _ _).mono ?_; rintro e u9 ⟨rfl, hb1⟩)
      ))
  replace B1 := Lib.hid (((B1.out.drew).below hb1).below hb2)
  replace B2 := Lib.hid (((B2.out.drew).below hb1).below hb2)
  replace X0 := Lib.hid (((X0.out.drew).below hb1).below hb2)
  replace X1 := Lib.hid (((X1.out.drew).below hb1).below hb2)
  replace BX1 := Lib.hid (((BX1.out.drew).below hb1).below hb2)
  replace G := Lib.hid ((G.out.drew.trans (hb1.mono G.out.drew.size)).trans (hb2.mono (G.out.drew.trans (hb1.mono G.out.drew.size)).size))
  clear hb1 hb2
  have R2 := Lib.hid hr
  clear hr
  go_wp2_with fail
  refine (sameFloat_true _ _ _ (by rw [cn_wideR, cn_wideR, R1.out, R2.out])).mono ?_
  rintro e w' ⟨n0, rfl, rfl⟩
  replace B1 := Lib.hid (B1.out.drewN (wideN r2 + wideN r1 + n0))
  replace B2 := Lib.hid (B2.out.drewN (wideN r2 + wideN r1 + n0))
  replace X0 := Lib.hid (X0.out.drewN (wideN r2 + wideN r1 + n0))
  replace X1 := Lib.hid (X1.out.drewN (wideN r2 + wideN r1 + n0))
  replace BX1 := Lib.hid (BX1.out.drewN (wideN r2 + wideN r1 + n0))
  replace G := Lib.hid (below_drewN G.out (wideN r2 + wideN r1 + n0))
  go_wp2_with fail
  refine (toFt_any _ _ _ _ _ (FSl.below H0.out G.out) hm0).mono ?_
  rintro e u11 ⟨rfl, t, b, q⟩
  replace B1 := Lib.hid (B1.out.below b)
  replace B2 := Lib.hid (B2.out.below b)
  replace X0 := Lib.hid (X0.out.below b)
  replace X1 := Lib.hid (X1.out.below b)
  replace BX1 := Lib.hid (BX1.out.below b)
  replace G := Lib.hid (G.out.trans (b.mono G.out.size))
  clear b
  have Y0 := Lib.hid t
  skip
  clear t q
  go_wp2_with fail
  refine (eqF_any _ _ _ _ _ _ _ _ X0.out.sl Y0.out.sl hm0 (fun _ _ => rfl)).mono ?_
  rintro e w' ⟨m0, rfl, rfl⟩
  clear Y0
  replace B1 := Lib.hid (B1.out.drewN m0)
  replace B2 := Lib.hid (B2.out.drewN m0)
  replace X0 := Lib.hid (X0.out.drewN m0)
  replace X1 := Lib.hid (X1.out.drewN m0)
  replace BX1 := Lib.hid (BX1.out.drewN m0)
  replace G := Lib.hid (below_drewN G.out m0)
  go_wp2_with fail
  go_region_held3 (fun w' => w'.cell? ⟨u8.heap.size, 0, none⟩ = some (.float .f32 l1) ∧ w'.cell? ⟨u8.heap.size, 1, none⟩ = some (.float .f32 s1) ∧ w'.cell? ⟨u8.heap.size, 2, none⟩ = some (.slice (some ⟨u7.heap.size + 1 + 1 + 1, 0, none⟩) len1 len1) ∧ w'.cell? ⟨u8.heap.size, 3, none⟩ = some (.int .i64 t1) ∧ w'.cell? ⟨w.heap.size, 0, none⟩ = some (.float .f32 l1) ∧ w'.cell? ⟨w.heap.size, 1, none⟩ = some (.float .f32 s1) ∧ w'.cell? ⟨w.heap.size, 2, none⟩ = some (.slice a1 len1 cap1) ∧ w'.cell? ⟨w.heap.size, 3, none⟩ = some (.int .i64 t1)) (first | exact ⟨(((BX1.out.drew).below hb1).below hb2).1, (((BX1.out.drew).below hb1).below hb2).2.1, (((BX1.out.drew).below hb1).below hb2).2.2.1, (((BX1.out.drew).below hb1).below hb2).2.2.2, (((B1.out.drew).below hb1).below hb2).1, (((B1.out.drew).below hb1).below hb2).2.1, (((B1.out.drew).below hb1).below hb2).2.2.1, (((B1.out.drew).below hb1).below hb2).2.2.2⟩ | exact ⟨((BX1.out.drew).below hb1).1, ((BX1.out.drew).below hb1).2.1, ((BX1.out.drew).below hb1).2.2.1, ((BX1.out.drew).below hb1).2.2.2, ((B1.out.drew).below hb1).1, ((B1.out.drew).below hb1).2.1, ((B1.out.drew).below hb1).2.2.1, ((B1.out.drew).below hb1).2.2.2⟩ | exact ⟨(BX1.out.drew).1, (BX1.out.drew).2.1, (BX1.out.drew).2.2.1, (BX1.out.drew).2.2.2, (B1.out.drew).1, (B1.out.drew).2.1, (B1.out.drew).2.2.1, (B1.out.drew).2.2.2⟩ | go_keep)
    ((first
      | (go_at_call 20; refine (eqSt_any _ _ _ _ _ _ _ _ _ _ _ _ _ rfl rfl ((X1.out.drew).below hb1).sl ht1.sl hm1 (fun _ _ => rfl)).mono ?_; rintro e u13 ⟨rfl, hb2⟩)
      | (go_at_call 17; refine (toSt_any _ _ _ _ _ _ _ _ (FSl.below H1.out G.out.drew) hm1).mono ?_; rintro e u12 ⟨rfl, ht1, hb1, hq⟩)
      ))
  replace B1 := Lib.hid (((B1.out.drew).below hb1).below hb2)
  replace B2 := Lib.hid (((B2.out.drew).below hb1).below hb2)
  replace X0 := Lib.hid (((X0.out.drew).below hb1).below hb2)
  replace X1 := Lib.hid (((X1.out.drew).below hb1).below hb2)
  replace BX1 := Lib.hid (((BX1.out.drew).below hb1).below hb2)
  replace G := Lib.hid ((G.out.drew.trans (hb1.mono G.out.drew.size)).trans (hb2.mono (G.out.drew.trans (hb1.mono G.out.drew.size)).size))
  clear hb1 hb2
  go_wp2
  go_ret
  exact ⟨rfl, G.out⟩
end Go.Proofs.Ytgddfhmddkhaeaa.fnExactMissOfShares
