import Derived.Test.YtgddfhmddkhaeaaWmz
import Derived.Test.YtgddfhmddkhaeaaShl
import Derived.Test.YtgddfhmddkhaeaaStl
import Derived.Deep.RegionHeld3
namespace Go.Proofs.Ytgddfhmddkhaeaa
theorem MHeld.drew {w : World} {A : Option Addr} {b len k : Nat} (h : MHeld w A b len k) : MHeld w.drew A b len k := h.drewN 1
end Go.Proofs.Ytgddfhmddkhaeaa
namespace Go.Proofs.Ytgddfhmddkhaeaa.fnExactMissesOf
open Go.RowKit Ieee
set_option linter.unusedVariables false
set_option maxHeartbeats 8000000 in
set_option maxRecDepth 100000 in
theorem walk (a0 : Option Addr) (len0 cap0 : Nat) (z0 : List Nat) (l1 s1 : Nat) (a1 : Option Addr) (len1 cap1 : Nat) (z1 : List Nat) (t1 : Int) (a2 b2 c2 e2 : Nat) (w : World) (w0 : FRow w a0 len0 cap0 z0) (w1 : FRow w a1 len1 cap1 z1) (x1 : (Lit.int .i64 t1).wf = true) :
    Calls Try.prog 6 #[.slice a0 len0 cap0, .agg #[.float .f32 l1, .float .f32 s1, .slice a1 len1 cap1, .int .i64 t1], .agg #[.float .f32 a2, .float .f32 b2, .float .f32 c2, .float .f32 e2]] w fun e w' => e = .returned (.bool true) ∧ Below w.heap.size w w' := by
  obtain ⟨hs0, hlc0, hcm0, _⟩ := w0
  have H0 := Lib.hid hs0
  clear hs0
  obtain ⟨hs1, hlc1, hcm1, _⟩ := w1
  have H1 := Lib.hid hs1
  clear hs1
  have G := Lib.hid (Below.refl w.heap.size w)
  have B1 := Lib.hid (StIn.new w l1 s1 a1 len1 cap1 t1 25)
  replace G := Lib.hid (G.out.alloc (Nat.le_refl _) (.cells #[.float .f32 l1, .float .f32 s1, .slice a1 len1 cap1, .int .i64 t1] 25))
  have B2 := Lib.hid (show ShIn ((w.alloc (.cells #[.float .f32 l1, .float .f32 s1, .slice a1 len1 cap1, .int .i64 t1] 25)).alloc (.cells #[.float .f32 a2, .float .f32 b2, .float .f32 c2, .float .f32 e2] 27)) (w.heap.size + 1) a2 b2 c2 e2 from by simpa using ShIn.new (w.alloc (.cells #[.float .f32 l1, .float .f32 s1, .slice a1 len1 cap1, .int .i64 t1] 25)) a2 b2 c2 e2 27)
  replace B1 := Lib.hid (B1.out.alloc (.cells #[.float .f32 a2, .float .f32 b2, .float .f32 c2, .float .f32 e2] 27))
  replace G := Lib.hid (G.out.alloc (by simp; try omega) (.cells #[.float .f32 a2, .float .f32 b2, .float .f32 c2, .float .f32 e2] 27))
  by_cases hn0 : len0 ≤ 1048576
  rotate_left
  · skip
    go_enter Try.func6, Try.ntmps6
    go_wp2_with fail
    all_goals (go_ret; exact ⟨rfl, G.out⟩)
  by_cases hn1 : len1 ≤ 1048576
  rotate_left
  · skip
    go_enter Try.func6, Try.ntmps6
    obtain ⟨k0, k1, k2, k3⟩ := B1.out
    go_wp2_with fail
    refine (szSt_no _ _ _ _ _ _ 1048576 _ (by omega) (by omega) (by unfold maxLen at *; omega)).mono ?_
    rintro e u1 ⟨rfl, b⟩
    clear k0 k1 k2 k3
    replace B1 := Lib.hid (B1.out.below b)
    replace B2 := Lib.hid (B2.out.below b)
    replace G := Lib.hid (G.out.trans (b.mono G.out.size))
    have hz1 := b.size
    try simp at hz1
    clear b
    go_wp2
    go_ret
    exact ⟨rfl, G.out⟩
  have hm0 : len0 ≤ 1048576 := by omega
  have hm1 : len1 ≤ 1048576 := by omega
  go_enter Try.func6, Try.ntmps6
  obtain ⟨k0, k1, k2, k3⟩ := B1.out
  go_wp2_with fail
  refine (szSt_any _ _ _ _ _ _ 1048576 _ (by omega) (by omega)).mono ?_
  rintro e u2 ⟨rfl, b⟩
  clear k0 k1 k2 k3
  replace B1 := Lib.hid (B1.out.below b)
  replace B2 := Lib.hid (B2.out.below b)
  replace G := Lib.hid (G.out.trans (b.mono G.out.size))
  have hz2 := b.size
  try simp at hz2
  clear b
  have hX : (rnL (rnM ⟨l1, s1, z1, t1⟩ z0 a2 b2 c2 e2) (rnB ⟨l1, s1, z1, t1⟩ z0 a2 b2 c2 e2 len0) len0).length ≤ 1048576 := (rnL_len _ _ _ hm0)
  go_wp2_with fail
  go_region_held3 (fun w' => w'.cell? ⟨w.heap.size, 0, none⟩ = some (.float .f32 l1) ∧ w'.cell? ⟨w.heap.size, 1, none⟩ = some (.float .f32 s1) ∧ w'.cell? ⟨w.heap.size, 2, none⟩ = some (.slice a1 len1 cap1) ∧ w'.cell? ⟨w.heap.size, 3, none⟩ = some (.int .i64 t1) ∧ w'.cell? ⟨w.heap.size + 1, 0, none⟩ = some (.float .f32 a2) ∧ w'.cell? ⟨w.heap.size + 1, 1, none⟩ = some (.float .f32 b2) ∧ w'.cell? ⟨w.heap.size + 1, 2, none⟩ = some (.float .f32 c2) ∧ w'.cell? ⟨w.heap.size + 1, 3, none⟩ = some (.float .f32 e2)) (first | exact ⟨(((((B1.out.drew).below hb1).below hb2).below hb3).below hb4).1, (((((B1.out.drew).below hb1).below hb2).below hb3).below hb4).2.1, (((((B1.out.drew).below hb1).below hb2).below hb3).below hb4).2.2.1, (((((B1.out.drew).below hb1).below hb2).below hb3).below hb4).2.2.2, (((((B2.out.drew).below hb1).below hb2).below hb3).below hb4).1, (((((B2.out.drew).below hb1).below hb2).below hb3).below hb4).2.1, (((((B2.out.drew).below hb1).below hb2).below hb3).below hb4).2.2.1, (((((B2.out.drew).below hb1).below hb2).below hb3).below hb4).2.2.2⟩ | exact ⟨((((B1.out.drew).below hb1).below hb2).below hb3).1, ((((B1.out.drew).below hb1).below hb2).below hb3).2.1, ((((B1.out.drew).below hb1).below hb2).below hb3).2.2.1, ((((B1.out.drew).below hb1).below hb2).below hb3).2.2.2, ((((B2.out.drew).below hb1).below hb2).below hb3).1, ((((B2.out.drew).below hb1).below hb2).below hb3).2.1, ((((B2.out.drew).below hb1).below hb2).below hb3).2.2.1, ((((B2.out.drew).below hb1).below hb2).below hb3).2.2.2⟩ | exact ⟨(((B1.out.drew).below hb1).below hb2).1, (((B1.out.drew).below hb1).below hb2).2.1, (((B1.out.drew).below hb1).below hb2).2.2.1, (((B1.out.drew).below hb1).below hb2).2.2.2, (((B2.out.drew).below hb1).below hb2).1, (((B2.out.drew).below hb1).below hb2).2.1, (((B2.out.drew).below hb1).below hb2).2.2.1, (((B2.out.drew).below hb1).below hb2).2.2.2⟩ | exact ⟨((B1.out.drew).below hb1).1, ((B1.out.drew).below hb1).2.1, ((B1.out.drew).below hb1).2.2.1, ((B1.out.drew).below hb1).2.2.2, ((B2.out.drew).below hb1).1, ((B2.out.drew).below hb1).2.1, ((B2.out.drew).below hb1).2.2.1, ((B2.out.drew).below hb1).2.2.2⟩ | exact ⟨(B1.out.drew).1, (B1.out.drew).2.1, (B1.out.drew).2.2.1, (B1.out.drew).2.2.2, (B2.out.drew).1, (B2.out.drew).2.1, (B2.out.drew).2.2.1, (B2.out.drew).2.2.2⟩ | go_keep)
    ((first
      | (go_at_call 32; refine (spMissesO _ _ _ _ _ _ _ _ _ _ _ _ _ _ _ _ ((ht0.below hb2).below hb3).sl (ht1.below hb3).sl hm0 hm1).mono ?_; rintro e u6 hR; obtain ⟨Ar1, cr1, dr1, qr1, rfl, ht1, hc1, hd1, hb4⟩ := hR.res)
      | (go_at_call 18; refine (toSh_any _ _ _ _ _).mono ?_; rintro e u5 ⟨rfl, hb3⟩)
      | (go_at_call 17; refine (toSt_any _ _ _ _ _ _ _ _ (FSl.below H1.out (G.out.drew.trans (hb1.mono G.out.drew.size))) hm1).mono ?_; rintro e u4 ⟨rfl, ht1, hb2, hq⟩)
      | (go_at_call 25; refine (toFt_any _ _ _ _ _ (FSl.below H0.out G.out.drew) hm0).mono ?_; rintro e u3 ⟨rfl, ht0, hb1, hq⟩)
      ))
  replace B1 := Lib.hid (((((B1.out.drew).below hb1).below hb2).below hb3).below hb4)
  replace B2 := Lib.hid (((((B2.out.drew).below hb1).below hb2).below hb3).below hb4)
  replace G := Lib.hid ((((G.out.drew.trans (hb1.mono G.out.drew.size)).trans (hb2.mono (G.out.drew.trans (hb1.mono G.out.drew.size)).size)).trans (hb3.mono ((G.out.drew.trans (hb1.mono G.out.drew.size)).trans (hb2.mono (G.out.drew.trans (hb1.mono G.out.drew.size)).size)).size)).trans (hb4.mono (((G.out.drew.trans (hb1.mono G.out.drew.size)).trans (hb2.mono (G.out.drew.trans (hb1.mono G.out.drew.size)).size)).trans (hb3.mono ((G.out.drew.trans (hb1.mono G.out.drew.size)).trans (hb2.mono (G.out.drew.trans (hb1.mono G.out.drew.size)).size)).size)).size))
  have hz3 := hb1.size
  try simp at hz3
  have hz4 := hb2.size
  try simp at hz4
  have hz5 := hb3.size
  try simp at hz5
  have hz6 := hb4.size
  try simp at hz6
  clear hb1 hb2 hb3 hb4
  have L1 := Lib.hid ht1
  have C1 := Lib.hid hc1
  have hl1 : 0 < (rnL (rnM ⟨l1, s1, z1, t1⟩ z0 a2 b2 c2 e2) (rnB ⟨l1, s1, z1, t1⟩ z0 a2 b2 c2 e2 len0) len0).length → dr1 < u6.heap.size := ht1.lt_
  clear ht1 hc1
  go_wp2_with fail
  refine (toFt_any _ _ _ _ _ (FSl.below H0.out G.out) hm0).mono ?_
  rintro e u7 ⟨rfl, t, b, q⟩
  replace B1 := Lib.hid (B1.out.below b)
  replace B2 := Lib.hid (B2.out.below b)
  replace L1 := Lib.hid (L1.out.below b)
  replace G := Lib.hid (G.out.trans (b.mono G.out.size))
  have hz7 := b.size
  try simp at hz7
  clear b
  have X0 := Lib.hid t
  have hqX0 := q
  clear t q
  obtain ⟨k0, k1, k2, k3⟩ := B1.out
  go_wp2_with fail
  refine (toSt_any _ _ _ _ _ _ _ _ (FSl.below H1.out G.out) hm1).mono ?_
  rintro e u8 ⟨rfl, t, b, q⟩
  clear k0 k1 k2 k3
  replace B1 := Lib.hid (B1.out.below b)
  replace B2 := Lib.hid (B2.out.below b)
  replace L1 := Lib.hid (L1.out.below b)
  replace X0 := Lib.hid (X0.out.below b)
  replace G := Lib.hid (G.out.trans (b.mono G.out.size))
  have hz8 := b.size
  try simp at hz8
  clear b
  have X1 := Lib.hid t
  have hqX1 := q
  clear t q
  have ba := (Below.refl u8.heap.size u8).alloc (Nat.le_refl _) (.cells #[.float .f32 l1, .float .f32 s1, .slice (some ⟨u7.heap.size + 1 + 1 + 1, 0, none⟩) len1 len1, .int .i64 t1] 29)
  replace B1 := Lib.hid (B1.out.below ba)
  replace B2 := Lib.hid (B2.out.below ba)
  replace L1 := Lib.hid (L1.out.below ba)
  replace X0 := Lib.hid (X0.out.below ba)
  replace X1 := Lib.hid (X1.out.below ba)
  replace G := Lib.hid (G.out.trans (ba.mono G.out.size))
  have hz9 := ba.size
  try simp at hz9
  clear ba
  have BX1 := Lib.hid (StIn.new u8 l1 s1 (some ⟨u7.heap.size + 1 + 1 + 1, 0, none⟩) len1 len1 t1 29)
  go_wp2_with fail
  go_region_held3 (fun w' => w'.cell? ⟨u8.heap.size, 0, none⟩ = some (.float .f32 l1) ∧ w'.cell? ⟨u8.heap.size, 1, none⟩ = some (.float .f32 s1) ∧ w'.cell? ⟨u8.heap.size, 2, none⟩ = some (.slice (some ⟨u7.heap.size + 1 + 1 + 1, 0, none⟩) len1 len1) ∧ w'.cell? ⟨u8.heap.size, 3, none⟩ = some (.int .i64 t1) ∧ w'.cell? ⟨w.heap.size + 1, 0, none⟩ = some (.float .f32 a2) ∧ w'.cell? ⟨w.heap.size + 1, 1, none⟩ = some (.float .f32 b2) ∧ w'.cell? ⟨w.heap.size + 1, 2, none⟩ = some (.float .f32 c2) ∧ w'.cell? ⟨w.heap.size + 1, 3, none⟩ = some (.float .f32 e2)) (first | exact ⟨(((BX1.out.drew).below hb1).below hb2).1, (((BX1.out.drew).below hb1).below hb2).2.1, (((BX1.out.drew).below hb1).below hb2).2.2.1, (((BX1.out.drew).below hb1).below hb2).2.2.2, (((B2.out.drew).below hb1).below hb2).1, (((B2.out.drew).below hb1).below hb2).2.1, (((B2.out.drew).below hb1).below hb2).2.2.1, (((B2.out.drew).below hb1).below hb2).2.2.2⟩ | exact ⟨((BX1.out.drew).below hb1).1, ((BX1.out.drew).below hb1).2.1, ((BX1.out.drew).below hb1).2.2.1, ((BX1.out.drew).below hb1).2.2.2, ((B2.out.drew).below hb1).1, ((B2.out.drew).below hb1).2.1, ((B2.out.drew).below hb1).2.2.1, ((B2.out.drew).below hb1).2.2.2⟩ | exact ⟨(BX1.out.drew).1, (BX1.out.drew).2.1, (BX1.out.drew).2.2.1, (BX1.out.drew).2.2.2, (B2.out.drew).1, (B2.out.drew).2.1, (B2.out.drew).2.2.1, (B2.out.drew).2.2.2⟩ | go_keep)
    ((first
      | (go_at_call 33; refine (imMissesO _ _ _ _ _ _ _ _ _ _ _ _ _ _ _ _ ((X0.out.drew).below hb1).sl ((X1.out.drew).below hb1).sl hm0 hm1).mono ?_; rintro e u10 hR; obtain ⟨Ar2, cr2, dr2, qr2, rfl, ht2, hc2, hd2, hb2⟩ := hR.res)
      | (go_at_call 18; refine (toSh_any _ _ _ _ _).mono ?_; rintro e u9 ⟨rfl, hb1⟩)
      ))
  replace B1 := Lib.hid (((B1.out.drew).below hb1).below hb2)
  replace B2 := Lib.hid (((B2.out.drew).below hb1).below hb2)
  replace L1 := Lib.hid (((L1.out.drew).below hb1).below hb2)
  replace X0 := Lib.hid (((X0.out.drew).below hb1).below hb2)
  replace X1 := Lib.hid (((X1.out.drew).below hb1).below hb2)
  replace BX1 := Lib.hid (((BX1.out.drew).below hb1).below hb2)
  replace G := Lib.hid ((G.out.drew.trans (hb1.mono G.out.drew.size)).trans (hb2.mono (G.out.drew.trans (hb1.mono G.out.drew.size)).size))
  have hz10 := hb1.size
  try simp at hz10
  have hz11 := hb2.size
  try simp at hz11
  clear hb1 hb2
  have L2 := Lib.hid ht2
  have C2 := Lib.hid hc2
  have hl2 : 0 < (rnL (rnM ⟨l1, s1, z1, t1⟩ z0 a2 b2 c2 e2) (rnB ⟨l1, s1, z1, t1⟩ z0 a2 b2 c2 e2 len0) len0).length → dr2 < u10.heap.size := ht2.lt_
  clear ht2 hc2
  go_wp2_with fail
  refine (eqF_any _ _ _ _ _ _ _ _ L2.out.sl L1.out.sl hX (same_cn C2.out C1.out)).mono ?_
  rintro e w' ⟨n0, rfl, rfl⟩
  replace B1 := Lib.hid (B1.out.drewN n0)
  replace B2 := Lib.hid (B2.out.drewN n0)
  replace L1 := Lib.hid (L1.out.drewN n0)
  replace X0 := Lib.hid (X0.out.drewN n0)
  replace X1 := Lib.hid (X1.out.drewN n0)
  replace BX1 := Lib.hid (BX1.out.drewN n0)
  replace L2 := Lib.hid (L2.out.drewN n0)
  replace G := Lib.hid (below_drewN G.out n0)
  go_wp2_with fail
  refine (toFt_any _ _ _ _ _ (FSl.below H0.out G.out) hm0).mono ?_
  rintro e u12 ⟨rfl, t, b, q⟩
  replace B1 := Lib.hid (B1.out.below b)
  replace B2 := Lib.hid (B2.out.below b)
  replace L1 := Lib.hid (L1.out.below b)
  replace X0 := Lib.hid (X0.out.below b)
  replace X1 := Lib.hid (X1.out.below b)
  replace BX1 := Lib.hid (BX1.out.below b)
  replace L2 := Lib.hid (L2.out.below b)
  replace G := Lib.hid (G.out.trans (b.mono G.out.size))
  have hz12 := b.size
  try simp at hz12
  clear b
  have Y0 := Lib.hid t
  skip
  clear t q
  go_wp2_with fail
  refine (eqF_any _ _ _ _ _ _ _ _ X0.out.sl Y0.out.sl hm0 (fun _ _ => rfl)).mono ?_
  rintro e w' ⟨m0, rfl, rfl⟩
  clear Y0
  replace B1 := Lib.hid (B1.out.drewN m0)
  replace B2 := Lib.hid (B2.out.drewN m0)
  replace L1 := Lib.hid (L1.out.drewN m0)
  replace X0 := Lib.hid (X0.out.drewN m0)
  replace X1 := Lib.hid (X1.out.drewN m0)
  replace BX1 := Lib.hid (BX1.out.drewN m0)
  replace L2 := Lib.hid (L2.out.drewN m0)
  replace G := Lib.hid (below_drewN G.out m0)
  go_wp2_with fail
  go_region_held3 (fun w' => w'.cell? ⟨u8.heap.size, 0, none⟩ = some (.float .f32 l1) ∧ w'.cell? ⟨u8.heap.size, 1, none⟩ = some (.float .f32 s1) ∧ w'.cell? ⟨u8.heap.size, 2, none⟩ = some (.slice (some ⟨u7.heap.size + 1 + 1 + 1, 0, none⟩) len1 len1) ∧ w'.cell? ⟨u8.heap.size, 3, none⟩ = some (.int .i64 t1) ∧ w'.cell? ⟨w.heap.size, 0, none⟩ = some (.float .f32 l1) ∧ w'.cell? ⟨w.heap.size, 1, none⟩ = some (.float .f32 s1) ∧ w'.cell? ⟨w.heap.size, 2, none⟩ = some (.slice a1 len1 cap1) ∧ w'.cell? ⟨w.heap.size, 3, none⟩ = some (.int .i64 t1)) (first | exact ⟨(((BX1.out.drew).below hb1).below hb2).1, (((BX1.out.drew).below hb1).below hb2).2.1, (((BX1.out.drew).below hb1).below hb2).2.2.1, (((BX1.out.drew).below hb1).below hb2).2.2.2, (((B1.out.drew).below hb1).below hb2).1, (((B1.out.drew).below hb1).below hb2).2.1, (((B1.out.drew).below hb1).below hb2).2.2.1, (((B1.out.drew).below hb1).below hb2).2.2.2⟩ | exact ⟨((BX1.out.drew).below hb1).1, ((BX1.out.drew).below hb1).2.1, ((BX1.out.drew).below hb1).2.2.1, ((BX1.out.drew).below hb1).2.2.2, ((B1.out.drew).below hb1).1, ((B1.out.drew).below hb1).2.1, ((B1.out.drew).below hb1).2.2.1, ((B1.out.drew).below hb1).2.2.2⟩ | exact ⟨(BX1.out.drew).1, (BX1.out.drew).2.1, (BX1.out.drew).2.2.1, (BX1.out.drew).2.2.2, (B1.out.drew).1, (B1.out.drew).2.1, (B1.out.drew).2.2.1, (B1.out.drew).2.2.2⟩ | go_keep)
    ((first
      | (go_at_call 20; refine (eqSt_any _ _ _ _ _ _ _ _ _ _ _ _ _ rfl rfl ((X1.out.drew).below hb1).sl ht1.sl hm1 (fun _ _ => rfl)).mono ?_; rintro e u14 ⟨rfl, hb2⟩)
      | (go_at_call 17; refine (toSt_any _ _ _ _ _ _ _ _ (FSl.below H1.out G.out.drew) hm1).mono ?_; rintro e u13 ⟨rfl, ht1, hb1, hq⟩)
      ))
  replace B1 := Lib.hid (((B1.out.drew).below hb1).below hb2)
  replace B2 := Lib.hid (((B2.out.drew).below hb1).below hb2)
  replace L1 := Lib.hid (((L1.out.drew).below hb1).below hb2)
  replace X0 := Lib.hid (((X0.out.drew).below hb1).below hb2)
  replace X1 := Lib.hid (((X1.out.drew).below hb1).below hb2)
  replace BX1 := Lib.hid (((BX1.out.drew).below hb1).below hb2)
  replace L2 := Lib.hid (((L2.out.drew).below hb1).below hb2)
  replace G := Lib.hid ((G.out.drew.trans (hb1.mono G.out.drew.size)).trans (hb2.mono (G.out.drew.trans (hb1.mono G.out.drew.size)).size))
  have hz13 := hb1.size
  try simp at hz13
  have hz14 := hb2.size
  try simp at hz14
  clear hb1 hb2
  go_wp2_with fail
  refine (markt_any 1 X0.out hm0 (by omega)).mono ?_
  rintro e u15 ⟨rfl, o, mk⟩
  replace B1 := Lib.hid (B1.out.only o (by omega))
  replace B2 := Lib.hid (B2.out.only o (by omega))
  replace L1 := Lib.hid (L1.out.only o (fun h0 => by (try have := hl1 h0); (try have := hl2 h0); omega))
  replace X1 := Lib.hid (X1.out.only o (fun h0 => by (try have := hl1 h0); (try have := hl2 h0); omega))
  replace BX1 := Lib.hid (BX1.out.only o (by omega))
  replace L2 := Lib.hid (L2.out.only o (fun h0 => by (try have := hl1 h0); (try have := hl2 h0); omega))
  replace G := Lib.hid (G.out.trans (o.below (by have := G.out.size; omega)))
  clear o mk X0
  obtain ⟨k0, k1, k2, k3⟩ := BX1.out
  go_wp2_with fail
  refine (markSt_any _ _ _ (1 + len0) X1.out hm1 (by omega)).mono ?_
  rintro e u16 ⟨rfl, o, ho⟩
  clear k0 k1 k2 k3
  clear X1 BX1
  have ba := (Below.refl u15.heap.size u15).alloc (Nat.le_refl _) o
  replace B1 := Lib.hid ((B1.out.alloc o).only ho (by omega))
  replace B2 := Lib.hid ((B2.out.alloc o).only ho (by omega))
  replace L1 := Lib.hid ((L1.out.below ba).only ho (fun h0 => by (try have := hl1 h0); (try have := hl2 h0); omega))
  replace L2 := Lib.hid ((L2.out.below ba).only ho (fun h0 => by (try have := hl1 h0); (try have := hl2 h0); omega))
  replace G := Lib.hid ((G.out.alloc G.out.size o).trans (ho.below (by have := G.out.size; omega)))
  clear ho ba
  go_wp2_with fail
  refine (eqF_any _ _ _ _ _ _ _ _ L2.out.sl L1.out.sl hX (same_cn C2.out C1.out)).mono ?_
  rintro e w' ⟨ne17, rfl, rfl⟩
  replace B1 := Lib.hid (B1.out.drewN ne17)
  replace B2 := Lib.hid (B2.out.drewN ne17)
  replace L1 := Lib.hid (L1.out.drewN ne17)
  replace L2 := Lib.hid (L2.out.drewN ne17)
  replace G := Lib.hid (below_drewN G.out ne17)
  go_wp2_with fail
  refine (markt_any 1 L2.out hX (by omega)).mono ?_
  rintro e u18 ⟨rfl, o, mk⟩
  replace B1 := Lib.hid (B1.out.only o (by omega))
  replace B2 := Lib.hid (B2.out.only o (by omega))
  replace L1 := Lib.hid (L1.out.only o (fun h0 => by (try have := hl1 h0); (try have := hl2 h0); omega))
  replace G := Lib.hid (G.out.trans (o.below (by have := G.out.size; omega)))
  have M2 := Lib.hid mk
  clear o mk L2
  go_wp2_with fail
  refine (heldt_any 1 M2.out hX (by omega)).mono ?_
  rintro e w' ⟨rfl, rfl⟩
  clear hq
  go_wp2_with fail
  go_region_held3 (fun w' => w'.cell? ⟨w.heap.size, 0, none⟩ = some (.float .f32 l1) ∧ w'.cell? ⟨w.heap.size, 1, none⟩ = some (.float .f32 s1) ∧ w'.cell? ⟨w.heap.size, 2, none⟩ = some (.slice a1 len1 cap1) ∧ w'.cell? ⟨w.heap.size, 3, none⟩ = some (.int .i64 t1) ∧ w'.cell? ⟨w.heap.size + 1, 0, none⟩ = some (.float .f32 a2) ∧ w'.cell? ⟨w.heap.size + 1, 1, none⟩ = some (.float .f32 b2) ∧ w'.cell? ⟨w.heap.size + 1, 2, none⟩ = some (.float .f32 c2) ∧ w'.cell? ⟨w.heap.size + 1, 3, none⟩ = some (.float .f32 e2)) (first | exact ⟨(((((B1.out.drew).below hb1).below hb2).below hb3).below hb4).1, (((((B1.out.drew).below hb1).below hb2).below hb3).below hb4).2.1, (((((B1.out.drew).below hb1).below hb2).below hb3).below hb4).2.2.1, (((((B1.out.drew).below hb1).below hb2).below hb3).below hb4).2.2.2, (((((B2.out.drew).below hb1).below hb2).below hb3).below hb4).1, (((((B2.out.drew).below hb1).below hb2).below hb3).below hb4).2.1, (((((B2.out.drew).below hb1).below hb2).below hb3).below hb4).2.2.1, (((((B2.out.drew).below hb1).below hb2).below hb3).below hb4).2.2.2⟩ | exact ⟨((((B1.out.drew).below hb1).below hb2).below hb3).1, ((((B1.out.drew).below hb1).below hb2).below hb3).2.1, ((((B1.out.drew).below hb1).below hb2).below hb3).2.2.1, ((((B1.out.drew).below hb1).below hb2).below hb3).2.2.2, ((((B2.out.drew).below hb1).below hb2).below hb3).1, ((((B2.out.drew).below hb1).below hb2).below hb3).2.1, ((((B2.out.drew).below hb1).below hb2).below hb3).2.2.1, ((((B2.out.drew).below hb1).below hb2).below hb3).2.2.2⟩ | exact ⟨(((B1.out.drew).below hb1).below hb2).1, (((B1.out.drew).below hb1).below hb2).2.1, (((B1.out.drew).below hb1).below hb2).2.2.1, (((B1.out.drew).below hb1).below hb2).2.2.2, (((B2.out.drew).below hb1).below hb2).1, (((B2.out.drew).below hb1).below hb2).2.1, (((B2.out.drew).below hb1).below hb2).2.2.1, (((B2.out.drew).below hb1).below hb2).2.2.2⟩ | exact ⟨((B1.out.drew).below hb1).1, ((B1.out.drew).below hb1).2.1, ((B1.out.drew).below hb1).2.2.1, ((B1.out.drew).below hb1).2.2.2, ((B2.out.drew).below hb1).1, ((B2.out.drew).below hb1).2.1, ((B2.out.drew).below hb1).2.2.1, ((B2.out.drew).below hb1).2.2.2⟩ | exact ⟨(B1.out.drew).1, (B1.out.drew).2.1, (B1.out.drew).2.2.1, (B1.out.drew).2.2.2, (B2.out.drew).1, (B2.out.drew).2.1, (B2.out.drew).2.2.1, (B2.out.drew).2.2.2⟩ | go_keep)
    ((first
      | (go_at_call 33; refine (imMissesO _ _ _ _ _ _ _ _ _ _ _ _ _ _ _ _ ((ht0.below hb2).below hb3).sl (ht1.below hb3).sl hm0 hm1).mono ?_; rintro e u22 hR; obtain ⟨Ar3, cr3, dr3, qr3, rfl, ht3, hc3, hd3, hb4⟩ := hR.res)
      | (go_at_call 18; refine (toSh_any _ _ _ _ _).mono ?_; rintro e u21 ⟨rfl, hb3⟩)
      | (go_at_call 17; refine (toSt_any _ _ _ _ _ _ _ _ (FSl.below H1.out (G.out.drew.trans (hb1.mono G.out.drew.size))) hm1).mono ?_; rintro e u20 ⟨rfl, ht1, hb2, hq⟩)
      | (go_at_call 25; refine (toFt_any _ _ _ _ _ (FSl.below H0.out G.out.drew) hm0).mono ?_; rintro e u19 ⟨rfl, ht0, hb1, hq⟩)
      ))
  replace B1 := Lib.hid (((((B1.out.drew).below hb1).below hb2).below hb3).below hb4)
  replace B2 := Lib.hid (((((B2.out.drew).below hb1).below hb2).below hb3).below hb4)
  replace L1 := Lib.hid (((((L1.out.drew).below hb1).below hb2).below hb3).below hb4)
  replace M2 := Lib.hid (((((M2.out.drew).below hb1).below hb2).below hb3).below hb4)
  replace G := Lib.hid ((((G.out.drew.trans (hb1.mono G.out.drew.size)).trans (hb2.mono (G.out.drew.trans (hb1.mono G.out.drew.size)).size)).trans (hb3.mono ((G.out.drew.trans (hb1.mono G.out.drew.size)).trans (hb2.mono (G.out.drew.trans (hb1.mono G.out.drew.size)).size)).size)).trans (hb4.mono (((G.out.drew.trans (hb1.mono G.out.drew.size)).trans (hb2.mono (G.out.drew.trans (hb1.mono G.out.drew.size)).size)).trans (hb3.mono ((G.out.drew.trans (hb1.mono G.out.drew.size)).trans (hb2.mono (G.out.drew.trans (hb1.mono G.out.drew.size)).size)).size)).size))
  have hz15 := hb1.size
  try simp at hz15
  have hz16 := hb2.size
  try simp at hz16
  have hz17 := hb3.size
  try simp at hz17
  have hz18 := hb4.size
  try simp at hz18
  clear hb1 hb2 hb3 hb4
  have L3 := Lib.hid ht3
  have C3 := Lib.hid hc3
  have hl3 : 0 < (rnL (rnM ⟨l1, s1, z1, t1⟩ z0 a2 b2 c2 e2) (rnB ⟨l1, s1, z1, t1⟩ z0 a2 b2 c2 e2 len0) len0).length → dr3 < u22.heap.size := ht3.lt_
  clear ht3 hc3
  go_wp2_with fail
  refine (eqF_any _ _ _ _ _ _ _ _ L3.out.sl L1.out.sl hX (same_cn C3.out C1.out)).mono ?_
  rintro e w' ⟨ne23, rfl, rfl⟩
  replace B1 := Lib.hid (B1.out.drewN ne23)
  replace B2 := Lib.hid (B2.out.drewN ne23)
  replace L1 := Lib.hid (L1.out.drewN ne23)
  replace M2 := Lib.hid (M2.out.drewN ne23)
  replace L3 := Lib.hid (L3.out.drewN ne23)
  replace G := Lib.hid (below_drewN G.out ne23)
  go_wp2_with fail
  refine (heldt_any 1 M2.out hX (by omega)).mono ?_
  rintro e w' ⟨rfl, rfl⟩
  go_wp2
  go_ret
  exact ⟨rfl, G.out⟩
end Go.Proofs.Ytgddfhmddkhaeaa.fnExactMissesOf
